import Derived.Test.YtljodhcfimklkabQ2
namespace Go.Proofs.Ytljodhcfimklkab
open Go.RowKit

def mgCells (x : Mg × Value) : List Value := [.int .i64 x.1.pl, .int .i64 (idNum x.1.id), .int .i64 x.1.sz, x.2]
def rmgCells (x : Mg × Value) : List Value := [.string x.1.id, .int .i64 x.1.sz, x.2, .int .i64 x.1.pl]
/-- The slice value v reads as the messages P, each beside the slice of its signals (the program's; the document's). -/
def MsgsAt (B : Nat) (w : World) (v : Value) (P : List (Mg × Value)) : Prop := w.ownsRow B 35 4 v P.length (P.flatMap mgCells) ∧ ∀ x ∈ P, SigsAt w x.2 x.1.sigs
def RMsgsAt (B : Nat) (w : World) (v : Value) (P : List (Mg × Value)) : Prop := w.ownsRow B 56 4 v P.length (P.flatMap rmgCells) ∧ ∀ x ∈ P, RSigsAt w x.2 x.1.sigs

theorem MsgsAt.below {B : Nat} {w w' : World} {v : Value} {P : List (Mg × Value)} (h : MsgsAt B w v P) (hb : Below w.heap.size w w') : MsgsAt B w' v P :=
  ⟨ownsRow_bel h.1 hb, fun x hx => ownsRow_below (h.2 x hx) hb⟩
theorem RMsgsAt.below {B : Nat} {w w' : World} {v : Value} {P : List (Mg × Value)} (h : RMsgsAt B w v P) (hb : Below w.heap.size w w') : RMsgsAt B w' v P :=
  ⟨ownsRow_bel h.1 hb, fun x hx => ownsRow_below (h.2 x hx) hb⟩

theorem ownsRow_block {w : World} {B e s : Nat} {v : Value} {n : Nat} {xs : List Value} (h : w.ownsRow B e s v n xs) : ∀ k, v.ownBlock = some k → ∃ cur, w.heap[k]? = some (.cells cur e (0, 0)) := by
  intro k hk
  rcases h.2 with ⟨rfl, _⟩ | ⟨g, cap, cur, rfl, _, hg, _⟩
  · simp [Value.ownBlock] at hk
  · simp [Value.ownBlock] at hk; subst hk; exact ⟨cur, hg⟩

/-- A row of one element type stays while a row of another is appended to. -/
theorem ownsRow_grown {w w' : World} {e e' s : Nat} {v : Value} {n : Nat} {xs : List Value} {row : Option Nat} (h : w.ownsRow 0 e s v n xs) (hg : w.grownBy w' row)
    (hrow : ∀ k, row = some k → ∃ cur, w.heap[k]? = some (.cells cur e' (0, 0))) (hne : e ≠ e') : w'.ownsRow 0 e s v n xs := by
  refine h.kept hg ?_
  cases hv : v.ownBlock with
  | none => exact .inl rfl
  | some k =>
    refine .inr (fun he => ?_)
    obtain ⟨cur, h1⟩ := hrow k he.symm
    obtain ⟨cur', h2⟩ := ownsRow_block h k hv
    rw [h1] at h2
    simp at h2
    exact hne h2.2.symm

theorem Try.infoMsg : (Try.prog.info? 35).map (fun i => (i.zero, i.size, i.bytes)) = some (some (.agg #[.int .i64 0, .int .i64 0, .int .i64 0, .slice none 0 0]), 4, 48) := by kernel_rfl
theorem Try.infoRMsg : (Try.prog.info? 56).map (fun i => (i.zero, i.size, i.bytes)) = some (some (.agg #[.string { data := #[] }, .int .i64 0, .slice none 0 0, .int .i64 0]), 4, 56) := by kernel_rfl

theorem glueM_fail {s : ByteArray} {acc : List Mg} {f p q : Nat} (hf : 0 < f) (h : pMsg s p = .inl q) : glueM acc (pDb s f p) = .inl q := by
  obtain ⟨f, rfl⟩ : ∃ k, f = k + 1 := ⟨f - 1, by omega⟩
  rw [pDb, h]; rfl
theorem glueM_end {s : ByteArray} {acc : List Mg} {f p e : Nat} {m : Mg} (hf : 0 < f) (h : pMsg s p = .inr (m, e)) (he : s.size ≤ e) : glueM acc (pDb s f p) = .inr (acc ++ [m]) := by
  obtain ⟨f, rfl⟩ : ∃ k, f = k + 1 := ⟨f - 1, by omega⟩
  rw [pDb, h]; simp only [if_pos he]; rfl
theorem glueM_semi {s : ByteArray} {acc : List Mg} {f p e : Nat} {m : Mg} (hf : 0 < f) (h : pMsg s p = .inr (m, e)) (he : ¬ s.size ≤ e) (h59 : bt s e ≠ 59) : glueM acc (pDb s f p) = .inl e := by
  obtain ⟨f, rfl⟩ : ∃ k, f = k + 1 := ⟨f - 1, by omega⟩
  rw [pDb, h]; simp only [if_neg he, if_neg h59]; rfl
theorem glueM_next {s : ByteArray} {acc : List Mg} {f p e : Nat} {m : Mg} (hf : 0 < f) (h : pMsg s p = .inr (m, e)) (he : ¬ s.size ≤ e) (h59 : bt s e = 59) : glueM acc (pDb s f p) = glueM (acc ++ [m]) (pDb s (f - 1) (e + 1)) := by
  obtain ⟨f, rfl⟩ : ∃ k, f = k + 1 := ⟨f - 1, by omega⟩
  rw [pDb, h]; simp only [if_neg he, if_pos h59, Nat.add_sub_cancel]
  rcases pDb s f (e + 1) with q | l <;> simp [glueM]
theorem glueM_nil (x : Nat ⊕ List Mg) : glueM [] x = x := by rcases x with p | l <;> rfl

def DbOut (s : ByteArray) (e : Ending) (w' : World) : Prop :=
  match pDb s 4 0 with
  | .inl p => e = .returned (.tuple #[.slice none 0 0, .bool false, .int .i64 p])
  | .inr M => ∃ v P q, P.map Prod.fst = M ∧ e = .returned (.tuple #[v, .bool true, .int .i64 q]) ∧ MsgsAt 0 w' v P ∧ P.length ≤ 4 ∧ ∀ x ∈ P, x.1.Ok

theorem DbOut_bad {s : ByteArray} {p : Nat} {w' : World} {q : Int} (h : pDb s 4 0 = .inl p) (hq : q = p) : DbOut s (.returned (.tuple #[.slice none 0 0, .bool false, .int .i64 q])) w' := by
  unfold DbOut; rw [h, hq]
theorem DbOut_good {s : ByteArray} {w' : World} {v : Value} {P : List (Mg × Value)} {q : Int} (h : pDb s 4 0 = .inr (P.map Prod.fst)) (hm : MsgsAt 0 w' v P) (hl : P.length ≤ 4) (hok : ∀ x ∈ P, x.1.Ok) : DbOut s (.returned (.tuple #[v, .bool true, .int .i64 q])) w' := by
  unfold DbOut; rw [h]; exact ⟨v, P, q, rfl, rfl, hm, hl, hok⟩

theorem msgs_push {B : Nat} {w1 w3 : World} {v v3 sv : Value} {P : List (Mg × Value)} {m : Mg} {o1 o2 : Obj} (hm : MsgsAt B w1 v P) (hsv : SigsAt w1 sv m.sigs)
    (hg : ((w1.alloc o1).alloc o2).grownBy w3 v.ownBlock) (ho : w3.ownsRow B 35 4 v3 (P.length + 1) (P.flatMap mgCells ++ mgCells (m, sv))) : MsgsAt B w3 v3 (P ++ [(m, sv)]) := by
  have hblk := ownsRow_block ((hm.1.alloc o1).alloc o2)
  have keep : ∀ (u : Value) (L : List Sg), SigsAt w1 u L → SigsAt w3 u L := fun u L h =>
    ownsRow_grown (e' := 35) ((World.ownsRow.alloc h o1).alloc o2) hg hblk (by decide)
  refine ⟨by simpa [List.flatMap_append] using ho, fun x hx => ?_⟩
  rcases List.mem_append.1 hx with hx | hx
  · exact keep _ _ (hm.2 x hx)
  · simp at hx; subst hx; exact keep _ _ hsv
theorem rmsgs_push {B : Nat} {w1 w3 : World} {v v3 sv : Value} {P : List (Mg × Value)} {m : Mg} {o1 o2 : Obj} (hm : RMsgsAt B w1 v P) (hsv : RSigsAt w1 sv m.sigs)
    (hg : ((w1.alloc o1).alloc o2).grownBy w3 v.ownBlock) (ho : w3.ownsRow B 56 4 v3 (P.length + 1) (P.flatMap rmgCells ++ rmgCells (m, sv))) : RMsgsAt B w3 v3 (P ++ [(m, sv)]) := by
  have hblk := ownsRow_block ((hm.1.alloc o1).alloc o2)
  have keep : ∀ (u : Value) (L : List Sg), RSigsAt w1 u L → RSigsAt w3 u L := fun u L h =>
    ownsRow_grown (e' := 56) ((World.ownsRow.alloc h o1).alloc o2) hg hblk (by decide)
  refine ⟨by simpa [List.flatMap_append] using ho, fun x hx => ?_⟩
  rcases List.mem_append.1 hx with hx | hx
  · exact keep _ _ (hm.2 x hx)
  · simp at hx; subst hx; exact keep _ _ hsv
theorem MsgsAt.base {B : Nat} {w : World} {v : Value} {P : List (Mg × Value)} (h : MsgsAt B w v P) : MsgsAt 0 w v P := ⟨ownsRow_base h.1, h.2⟩
theorem RMsgsAt.base {B : Nat} {w : World} {v : Value} {P : List (Mg × Value)} (h : RMsgsAt B w v P) : RMsgsAt 0 w v P := ⟨ownsRow_base h.1, h.2⟩
theorem ok_push {P : List (Mg × Value)} {m : Mg} {sv : Value} (h : ∀ x ∈ P, x.1.Ok) (hm : m.Ok) : ∀ x ∈ P ++ [(m, sv)], x.1.Ok := by
  intro x hx
  rcases List.mem_append.1 hx with hx | hx
  · exact h x hx
  · simp at hx; subst hx; exact hm

set_option maxRecDepth 100000 in
set_option maxHeartbeats 2000000 in
theorem readDatabase_any (s : ByteArray) (w : World) (hs : s.size ≤ 320) :
    Calls Try.prog 41 #[.string s] w fun e w' => DbOut s e w' ∧ Below w.heap.size w w' := by
  obtain ⟨i0, hinf, hz0, hz1, hz2⟩ := info_parts Try.infoMsg
  have HINF := hide hinf
  have HZ0 := hide hz0
  have HZ1 := hide hz1
  have HZ2 := hide hz2
  clear hinf hz0 hz1 hz2
  go_enter Try.func41, Try.ntmps41
  go_wp2
  go_loopw [5, 6, 7, 8, 9] (fun v a _ _ _ wr => ∃ (p : Nat) (P : List (Mg × Value)), a = .int .i64 p ∧ p ≤ s.size + 1 ∧ P.length ≤ 4 ∧ (4 ≤ P.length → 1 ≤ p) ∧ MsgsAt w.heap.size wr v P ∧ (∀ x ∈ P, x.1.Ok) ∧
      Below w.heap.size w wr ∧ glueM (P.map Prod.fst) (pDb s (4 - P.length) p) = pDb s 4 0) (fun _ a _ _ _ _ => s.size + 10 - (intOf a).toNat)
  case atStart =>
    refine ⟨0, [], rfl, by omega, by simp, by simp, ⟨⟨by simp, .inr ⟨w.heap.size, 0, #[], rfl, Nat.le_refl _, blk_new _ _, by simp, by simp [maxLen], by simp, by simp⟩⟩, by simp⟩, by simp, (Below.refl _ _).alloc (Nat.le_refl _) _, glueM_nil _⟩
  case round =>
    obtain ⟨p, P, rfl, hp, hP, hp1, hm, hok, hbel, hgl⟩ := hrel
    obtain ⟨sa, cap, rfl⟩ := ownsRow_form hm.1
    have HM := hide hm
    have HOK := hide hok
    have HBEL := hide hbel
    have HGL := hide hgl
    clear hm hok hbel hgl
    by_cases hlt : P.length < 4
    · go_wp2_with fail
      refine (readMessage_any s p _ hs hp).mono ?_
      rintro e w1 ⟨hout, hb1⟩
      have HBEL1 := hide ((unhide HBEL).trans (hb1.mono (unhide HBEL).size))
      have HM1 := hide ((unhide HM).below hb1)
      clear hb1
      cases hpm : pMsg s p with
      | inl q =>
        rw [MsgOut, hpm] at hout
        dsimp only at hout
        subst hout
        have HFIN := hide (show pDb s 4 0 = .inl q by rw [← unhide HGL, glueM_fail (by omega) hpm])
        clear hpm
        go_wp2
        go_ret3
        exact ⟨DbOut_bad (unhide HFIN) rfl, (unhide HBEL1).alloc (unhide HBEL1).size _⟩
      | inr x =>
        obtain ⟨m, q⟩ := x
        rw [MsgOut, hpm] at hout
        dsimp only at hout
        obtain ⟨sv, rfl, hsv⟩ := hout
        obtain ⟨va, vcap, rfl⟩ := ownsRow_form hsv
        have HSV := hide hsv
        have HPM := hide hpm
        have hmo := pMsg_ok hpm
        have HMO := hide hmo.1
        have hq := hmo.2.2
        clear hsv hpm hmo
        go_wp2_with (at_builtin; refine wpList_append_own _ rfl _ _ 67 rfl w.heap.size 35 i0 _ 4 48 Try.underlying67 (unhide HINF) (unhide HZ0) (unhide HZ1) (unhide HZ2) rfl (by decide) _ _ _ rfl (((unhide HM1).1.alloc _).alloc _) ⟨w1.heap.size + 1, 0, none⟩ 1 1 (mgCells (m, .slice va m.sigs.length vcap)) rfl rfl ?c1 ?c2 ?c3 ?c4 ?c5 ?_)
        case c1 => exact new_cells (new_two _ _ _)
        case c2 => simp [mgCells, Value.oneCell']
        case c3 => unfold maxLen; omega
        case c4 => omega
        case c5 => have := (unhide HBEL1).size; simp; omega
        intro v3 w3 hown3 hgrow _
        obtain ⟨a3, cap3, rfl⟩ := ownsRow_form hown3
        have HM3 := hide (msgs_push (unhide HM1) (unhide HSV) hgrow hown3)
        have HBEL3 := hide (Below.grown (((unhide HBEL1).alloc (unhide HBEL1).size _).alloc (by have := (unhide HBEL1).size; simp; omega) _) hgrow (by have := (unhide HBEL1).size; simp; omega) (fun k hk => ((unhide HM1).1.lt k hk).1))
        clear hown3 hgrow
        by_cases he : s.size ≤ q
        · have HFIN := hide (show pDb s 4 0 = .inr ((P ++ [(m, Value.slice va m.sigs.length vcap)]).map Prod.fst) by rw [← unhide HGL, glueM_end (by omega) (unhide HPM) he]; simp)
          go_wp2
          go_ret3
          exact ⟨DbOut_good (unhide HFIN) (unhide HM3).base (by simp; omega) (ok_push (unhide HOK) (unhide HMO)), unhide HBEL3⟩
        · by_cases h59 : bt s q = 59
          · have e59 : ((s[q].toNat : Int) != 59) = false := by rw [bt_of (by omega), h59]; rfl
            have H59 := hide h59
            clear h59
            go_wp2
            go_roundw
            case rel =>
              refine ⟨q + 1, P ++ [(m, Value.slice va m.sigs.length vcap)], by go_num, by omega, by simp; omega, fun _ => by omega, unhide HM3, ok_push (unhide HOK) (unhide HMO), unhide HBEL3, ?_⟩
              rw [← unhide HGL, glueM_next (by omega) (unhide HPM) he (unhide H59)]
              rw [List.map_append, List.length_append]
              congr 2
            case measure => have := (pMsg_ok (unhide HPM)).2.1; simp [intOf]; omega
          · have e59 : ((s[q].toNat : Int) != 59) = true := by rw [bt_of (by omega)]; simpa using h59
            have HFIN := hide (show pDb s 4 0 = .inl q by rw [← unhide HGL, glueM_semi (by omega) (unhide HPM) he h59])
            clear h59
            go_wp2
            go_ret3
            exact ⟨DbOut_bad (unhide HFIN) rfl, unhide HBEL3⟩
    · have h4 : P.length = 4 := by omega
      have HFIN := hide (show pDb s 4 0 = .inl (p - 1) by rw [← unhide HGL, h4]; rfl)
      have hp2 := hp1 (by omega)
      clear h4
      go_wp2
      go_ret3
      exact ⟨DbOut_bad (unhide HFIN) (by omega), unhide HBEL⟩

end Go.Proofs.Ytljodhcfimklkab
