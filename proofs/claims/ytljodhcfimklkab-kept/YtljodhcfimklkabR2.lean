import Derived.Test.YtljodhcfimklkabR1
namespace Go.Proofs.Ytljodhcfimklkab
open Go.RowKit

def RDbOut (s : ByteArray) (e : Ending) (w' : World) : Prop :=
  match pDb s 4 0 with
  | .inl p => e = .returned (.tuple #[.slice none 0 0, .int .i64 p, .bool false])
  | .inr M => ∃ v P q, P.map Prod.fst = M ∧ e = .returned (.tuple #[v, .int .i64 q, .bool true]) ∧ RMsgsAt 0 w' v P ∧ P.length ≤ 4 ∧ ∀ x ∈ P, x.1.Ok

theorem RDbOut_bad {s : ByteArray} {p : Nat} {w' : World} {q : Int} (h : pDb s 4 0 = .inl p) (hq : q = p) : RDbOut s (.returned (.tuple #[.slice none 0 0, .int .i64 q, .bool false])) w' := by
  unfold RDbOut; rw [h, hq]
theorem RDbOut_good {s : ByteArray} {w' : World} {v : Value} {P : List (Mg × Value)} {q : Int} (h : pDb s 4 0 = .inr (P.map Prod.fst)) (hm : RMsgsAt 0 w' v P) (hl : P.length ≤ 4) (hok : ∀ x ∈ P, x.1.Ok) : RDbOut s (.returned (.tuple #[v, .int .i64 q, .bool true])) w' := by
  unfold RDbOut; rw [h]; exact ⟨v, P, q, rfl, rfl, hm, hl, hok⟩
theorem glueM_last {s : ByteArray} {acc : List Mg} {p e : Nat} {m : Mg} (h : pMsg s p = .inr (m, e)) (he : ¬ s.size ≤ e) (h59 : bt s e = 59) : glueM acc (pDb s 1 p) = .inl e := by
  rw [glueM_next (by omega) h he h59]; rfl

set_option maxRecDepth 100000 in
set_option maxHeartbeats 2000000 in
theorem rRead_any (s : ByteArray) (w : World) (hs : s.size ≤ 140737488351232) :
    Calls Try.prog 37 #[.string s] w fun e w' => RDbOut s e w' ∧ Below w.heap.size w w' := by
  obtain ⟨i0, hinf, hz0, hz1, hz2⟩ := info_parts Try.infoRMsg
  have HINF := hide hinf
  have HZ0 := hide hz0
  have HZ1 := hide hz1
  have HZ2 := hide hz2
  clear hinf hz0 hz1 hz2
  go_enter Try.func37, Try.ntmps37
  go_wp2
  go_loopw [5, 6, 7, 8, 9, 10] (fun v a n _ _ _ wr => ∃ (p : Nat) (P : List (Mg × Value)), a = .int .i64 p ∧ n = .int .i64 P.length ∧ p ≤ s.size + 1 ∧ P.length < 4 ∧ RMsgsAt w.heap.size wr v P ∧ (∀ x ∈ P, x.1.Ok) ∧
      Below w.heap.size w wr ∧ glueM (P.map Prod.fst) (pDb s (4 - P.length) p) = pDb s 4 0) (fun _ a _ _ _ _ _ => s.size + 10 - (intOf a).toNat)
  case atStart =>
    refine ⟨0, [], rfl, rfl, by omega, by simp, ⟨World.ownsRow_nil _ _ _ _, by simp⟩, by simp, Below.refl _ _, glueM_nil _⟩
  case round =>
    obtain ⟨p, P, rfl, rfl, hp, hlt, hm, hok, hbel, hgl⟩ := hrel
    obtain ⟨sa, cap, rfl⟩ := ownsRow_form hm.1
    have HM := hide hm
    have HOK := hide hok
    have HBEL := hide hbel
    have HGL := hide hgl
    clear hm hok hbel hgl
    go_wp2_with fail
    refine (rMessage_any s p _ hs hp).mono ?_
    rintro e w1 ⟨hout, hb1⟩
    have HBEL1 := hide ((unhide HBEL).trans (hb1.mono (unhide HBEL).size))
    have HM1 := hide ((unhide HM).below hb1)
    clear hb1
    cases hpm : pMsg s p with
    | inl q =>
      rw [RMsgOut, hpm] at hout
      dsimp only at hout
      subst hout
      have HFIN := hide (show pDb s 4 0 = .inl q by rw [← unhide HGL, glueM_fail (by omega) hpm])
      clear hpm
      go_wp2
      go_ret3
      exact ⟨RDbOut_bad (unhide HFIN) rfl, (unhide HBEL1).alloc (unhide HBEL1).size _⟩
    | inr x =>
      obtain ⟨m, q⟩ := x
      rw [RMsgOut, hpm] at hout
      dsimp only at hout
      obtain ⟨sv, rfl, hsv⟩ := hout
      obtain ⟨va, vcap, rfl⟩ := ownsRow_form hsv
      have HSV := hide hsv
      have HPM := hide hpm
      have hmo := pMsg_ok hpm
      have HMO := hide hmo.1
      have hq := hmo.2.2
      clear hsv hpm hmo
      go_wp2_with (at_builtin; refine wpList_append_own _ rfl _ _ 85 rfl w.heap.size 56 i0 _ 4 56 Try.underlying85 (unhide HINF) (unhide HZ0) (unhide HZ1) (unhide HZ2) rfl (by decide) _ _ _ rfl (((unhide HM1).1.alloc _).alloc _) ⟨w1.heap.size + 1, 0, none⟩ 1 1 (rmgCells (m, .slice va m.sigs.length vcap)) rfl rfl ?c1 ?c2 ?c3 ?c4 ?c5 ?_)
      case c1 => exact new_cells (new_two _ _ _)
      case c2 => simp [rmgCells, Value.oneCell']
      case c3 => unfold maxLen; omega
      case c4 => omega
      case c5 => have := (unhide HBEL1).size; simp; omega
      intro v3 w3 hown3 hgrow _
      obtain ⟨a3, cap3, rfl⟩ := ownsRow_form hown3
      have HM3 := hide (rmsgs_push (unhide HM1) (unhide HSV) hgrow hown3)
      have HBEL3 := hide (Below.grown (((unhide HBEL1).alloc (unhide HBEL1).size _).alloc (by have := (unhide HBEL1).size; simp; omega) _) hgrow (by have := (unhide HBEL1).size; simp; omega) (fun k hk => ((unhide HM1).1.lt k hk).1))
      clear hown3 hgrow
      by_cases he : s.size ≤ q
      · have HFIN := hide (show pDb s 4 0 = .inr ((P ++ [(m, Value.slice va m.sigs.length vcap)]).map Prod.fst) by rw [← unhide HGL, glueM_end (by omega) (unhide HPM) he]; simp)
        have eq1 : ((q : Int) == (s.size : Int)) = true := by rw [beq_iff_eq]; omega
        go_wp2
        go_ret3
        exact ⟨RDbOut_good (unhide HFIN) (unhide HM3).base (by simp; omega) (ok_push (unhide HOK) (unhide HMO)), unhide HBEL3⟩
      · have eq1 : ((q : Int) == (s.size : Int)) = false := by rw [beq_eq_false_iff_ne]; omega
        by_cases h59 : bt s q = 59
        · have e59 : ((s[q].toNat : Int) != 59) = false := by rw [bt_of (by omega), h59]; rfl
          have H59 := hide h59
          clear h59
          by_cases h4 : P.length = 3
          · have e4 : ((P.length : Int) + 1 == 4) = true := by rw [h4]; rfl
            have HFIN := hide (show pDb s 4 0 = .inl q by rw [← unhide HGL, h4, glueM_last (unhide HPM) he (unhide H59)])
            clear h4
            go_wp2
            go_ret3
            exact ⟨RDbOut_bad (unhide HFIN) rfl, unhide HBEL3⟩
          · have e4 : ((P.length : Int) + 1 == 4) = false := by rw [beq_eq_false_iff_ne]; omega
            have h4' : P.length < 3 := by omega
            clear h4
            go_wp2
            go_roundw
            case rel =>
              refine ⟨q + 1, P ++ [(m, Value.slice va m.sigs.length vcap)], by go_num, by simp, by omega, by simp; omega, unhide HM3, ok_push (unhide HOK) (unhide HMO), unhide HBEL3, ?_⟩
              rw [← unhide HGL, glueM_next (by omega) (unhide HPM) he (unhide H59)]
              rw [List.map_append, List.length_append]
              congr 2
            case measure => have := (pMsg_ok (unhide HPM)).2.1; simp [intOf]; omega
        · have e59 : ((s[q].toNat : Int) != 59) = true := by rw [bt_of (by omega)]; simpa using h59
          have HFIN := hide (show pDb s 4 0 = .inl q by rw [← unhide HGL, glueM_semi (by omega) (unhide HPM) he h59])
          clear h59
          go_wp2
          go_ret3
          exact ⟨RDbOut_bad (unhide HFIN) rfl, unhide HBEL3⟩

end Go.Proofs.Ytljodhcfimklkab
