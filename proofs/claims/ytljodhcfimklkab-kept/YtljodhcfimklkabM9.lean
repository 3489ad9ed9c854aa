import Derived.Test.YtljodhcfimklkabM8
namespace Go.Proofs.Ytljodhcfimklkab
open Go.RowKit

/-- How many instructions a code has, a part of one counted. -/
def cntI (s : ByteArray) : Nat := (s.size + 4) / 5
def badB (s : ByteArray) (i : Nat) : Bool := decide (s.size < 5 * i + 5) || !knownB (insAt s i) ((cntI s : Int) - 1 - i)
def vIx (s : ByteArray) : Nat := firstIx (badB s) (cntI s)
/-- What the program's Verify answers. -/
def vE (s : ByteArray) : Int := if 480 < s.size then 1 else if vIx s < cntI s then 11 else 0
def vP (s : ByteArray) : Int := if 480 < s.size then 0 else if vIx s < cntI s then vIx s else 0
def codeTo (s : ByteArray) (k : Nat) : List Ins := (List.range k).map (insAt s)
def codeL (s : ByteArray) : List Ins := codeTo s (cntI s)
theorem codeTo_len (s : ByteArray) (k : Nat) : (codeTo s k).length = k := by simp [codeTo]
theorem codeTo_succ (s : ByteArray) (k : Nat) : codeTo s (k + 1) = codeTo s k ++ [insAt s k] := by simp [codeTo, List.range_succ]
theorem codeTo_get (s : ByteArray) (k i : Nat) (h : i < k) : (codeTo s k)[i]? = some (insAt s i) := by simp [codeTo, h]

theorem vE_zero {s : ByteArray} (h : vE s = 0) : s.size ≤ 480 ∧ (∀ i, i < cntI s → badB s i = false) := by
  unfold vE at h
  split at h
  · omega
  · split at h
    · omega
    · rename_i h1 h2
      refine ⟨by omega, fun i hi => ?_⟩
      have := firstIx_le (badB s) (cntI s)
      exact firstIx_no (badB s) (cntI s) i (by unfold vIx at h2; omega)
theorem code_fine {s : ByteArray} (h : vE s = 0) : Fine (codeL s) ∧ (codeL s).length ≤ 96 := by
  obtain ⟨h1, h2⟩ := vE_zero h
  rw [codeL]
  refine ⟨?_, by rw [codeTo_len]; unfold cntI; omega⟩
  intro i x hx
  rw [codeTo_len]
  by_cases hi : i < cntI s
  · rw [codeTo_get s _ i hi] at hx
    cases hx
    have := h2 i hi
    simp only [badB, Bool.or_eq_false_iff, Bool.not_eq_false'] at this
    exact ⟨insAt_byt s i, this.2⟩
  · rw [List.getElem?_eq_none (by rw [codeTo_len]; omega)] at hx; cases hx

theorem rdIns_at (s : ByteArray) (k : Nat) (w : World) (h : 5 * k + 5 ≤ s.size) :
    Calls Try.prog 31 #[.string (s.extract (5 * k) (5 * k + 5))] w fun e w' =>
      e = .returned (.agg #[.int .u8 (insAt s k).op, .int .i64 (insAt s k).r, .int .i64 (insAt s k).b, .int .i64 (insAt s k).k, .int .i64 (insAt s k).n]) ∧ Below w.heap.size w w' := by
  refine (readInstruction_any (s.extract (5 * k) (5 * k + 5)) w (by rw [ByteArray.size_extract]; omega)).mono ?_
  rintro e w' ⟨rfl, hb⟩
  refine ⟨?_, hb⟩
  rw [bt_extract s _ 5 0 (by omega) (by omega), bt_extract s _ 5 1 (by omega) (by omega), bt_extract s _ 5 2 (by omega) (by omega), bt_extract s _ 5 3 (by omega) (by omega), bt_extract s _ 5 4 (by omega) (by omega)]
  rfl

theorem Try.infoIns : (Try.prog.info? 78).map (fun i => (i.zero, i.size, i.bytes)) = some (some (.agg #[.int .u8 0, .int .i64 0, .int .i64 0, .int .i64 0, .int .i64 0]), 5, 40) := by kernel_rfl

set_option maxRecDepth 100000 in
set_option maxHeartbeats 2000000 in
theorem soundCode_any (s : ByteArray) (w : World) :
    Calls Try.prog 16 #[.string s] w fun e w' => (∃ a n cap, e = .returned (.tuple #[.slice a n cap, .int .i64 (vE s), .int .i64 (vP s)]) ∧ (vE s = 0 → InsAt w' (.slice a n cap) (codeL s))) ∧ Below w.heap.size w w' := by
  by_cases hlong : 480 < s.size
  · have HE := hide (show vE s = 1 ∧ vP s = 0 by simp [vE, vP, hlong])
    have hg : (480 : Int) < (s.size : Int) := by omega
    go_enter Try.func16, Try.ntmps16
    go_wp2
    go_ret3
    exact ⟨⟨none, 0, 0, by rw [(unhide HE).1, (unhide HE).2]; rfl, fun h => by rw [(unhide HE).1] at h; omega⟩, Below.refl _ _⟩
  obtain ⟨i0, hinf, hz0, hz1, hz2⟩ := info_parts Try.infoIns
  have HINF := hide hinf
  have HZ0 := hide hz0
  have HZ1 := hide hz1
  have HZ2 := hide hz2
  clear hinf hz0 hz1 hz2
  obtain ⟨c, HC⟩ : ∃ c, Hid (c = cntI s) := ⟨_, hide rfl⟩
  have hc1 : c ≤ 96 := by rw [unhide HC]; unfold cntI; omega
  have hc2 : ((s.size : Int) + 5 - 1) / 5 = (c : Int) := by rw [unhide HC]; unfold cntI; omega
  have hl2 : (s.size : Int) ≤ 480 := by omega
  go_enter Try.func16, Try.ntmps16
  go_wp2
  rw [hc2]
  clear hc2
  go_loopw [6, 7] (fun v i wr => ∃ k : Nat, k ≤ c ∧ i = .int .i64 k ∧ wr.ownsRow w.heap.size 78 5 v k ((codeTo s k).flatMap Ins.cells) ∧ (∀ j, j < k → badB s j = false) ∧ Below w.heap.size w wr) (fun _ i _ => c - (intOf i).toNat)
  case atStart => exact ⟨0, by omega, rfl, ⟨by simp [codeTo], .inr ⟨_, 0, #[], rfl, Nat.le_refl _, blk_new _ _, by simp, by simp [maxLen], by simp, by simp [codeTo]⟩⟩, by intro j hj; omega, (Below.refl _ _).alloc (Nat.le_refl _) _⟩
  case round =>
    obtain ⟨k, hk, rfl, hown, hno, hb⟩ := hrel
    obtain ⟨sa, cap, rfl⟩ := ownsRow_form hown
    have HOWN := hide hown
    have HNO := hide hno
    have HB := hide hb
    clear hown hno hb
    by_cases hlt : k < c
    · by_cases hsz : s.size < 5 * k + 5
      · have hbad : badB s k = true := by simp [badB, hsz]
        have hix : vIx s = k := firstIx_is (unhide HNO) (by rw [← unhide HC]; exact hlt) hbad
        have HE := hide (show vE s = 11 ∧ vP s = k by rw [vE, vP, if_neg hlong, if_neg hlong, hix, if_pos (by rw [← unhide HC]; exact hlt), if_pos (by rw [← unhide HC]; exact hlt)]; exact ⟨rfl, rfl⟩)
        clear hbad hix
        have hq : (s.size : Int) < 5 * (k : Int) + 5 := by omega
        go_wp2
        go_ret3
        exact ⟨⟨none, 0, 0, by rw [(unhide HE).1, (unhide HE).2]; rfl, fun h => by rw [(unhide HE).1] at h; omega⟩, unhide HB⟩
      · have hq : ¬ (s.size : Int) < 5 * (k : Int) + 5 := by omega
        have hq2 : 5 * (k : Int) + 5 ≤ (s.size : Int) := by omega
        obtain ⟨x, HX⟩ : ∃ x, Hid (x = insAt s k) := ⟨_, hide rfl⟩
        have hby := insAt_byt s k
        rw [← unhide HX] at hby
        have HBY := hide hby
        clear hby
        go_wp2_with fail
        refine (rdIns_at s k _ (by omega)).mono ?_
        rintro e w1 ⟨rfl, hb1⟩
        rw [← unhide HX]
        have HOWN1 := hide (ownsRow_bel (unhide HOWN) hb1)
        have HB1 := hide ((unhide HB).trans (hb1.mono (unhide HB).size))
        clear hb1 hq
        go_wp2_with fail
        refine (isInstruction_any x.op x.r x.b x.k x.n ((c : Int) - 1 - k) _ (unhide HBY)).mono ?_
        rintro e w2 ⟨rfl, hb2⟩
        have HB2 : Hid (Below (w1.heap.size + 1) (w1.alloc (.cells #[.int .u8 x.op, .int .i64 x.r, .int .i64 x.b, .int .i64 x.k, .int .i64 x.n] 78)) w2) := hide (hb2.mono (by simp))
        have hbw := box_cell (unhide HB2)
        have HB2' := hide ((unhide HB1).trans ((box_below (unhide HB2)).mono (unhide HB1).size))
        have HOWN2 := hide (ownsRow_bel (unhide HOWN1) (box_below (unhide HB2)))
        clear hb2
        cases hkn : knownB ⟨x.op, x.r, x.b, x.k, x.n⟩ ((c : Int) - 1 - k) with
        | false =>
          have hbad : badB s k = true := by
            rw [badB, ← unhide HX, ← unhide HC]
            have : knownB x ((c : Int) - 1 - k) = false := hkn
            simp [this]
          have hix : vIx s = k := firstIx_is (unhide HNO) (by rw [← unhide HC]; exact hlt) hbad
          have HE := hide (show vE s = 11 ∧ vP s = k by rw [vE, vP, if_neg hlong, if_neg hlong, hix, if_pos (by rw [← unhide HC]; exact hlt), if_pos (by rw [← unhide HC]; exact hlt)]; exact ⟨rfl, rfl⟩)
          clear hbad hix
          go_wp2
          go_ret3
          exact ⟨⟨none, 0, 0, by rw [(unhide HE).1, (unhide HE).2]; rfl, fun h => by rw [(unhide HE).1] at h; omega⟩, unhide HB2'⟩
        | true =>
          have hgood : badB s k = false := by
            rw [badB, ← unhide HX, ← unhide HC]
            have : knownB x ((c : Int) - 1 - k) = true := hkn
            simp [this]; omega
          have HGO := hide hgood
          clear hgood
          go_wp2_with (at_builtin; refine wpList_append_own _ rfl _ _ 43 rfl w.heap.size 78 i0 _ 5 40 Try.underlying43 (unhide HINF) (unhide HZ0) (unhide HZ1) (unhide HZ2) rfl (by decide) _ _ _ rfl ((unhide HOWN2).alloc _) ⟨w2.heap.size, 0, none⟩ 1 1 x.cells rfl rfl ?c1 ?c2 ?c3 ?c4 ?c5 ?_)
          case c1 => exact new_cells (blk_new _ _)
          case c2 => simp [Ins.cells, Value.oneCell']
          case c3 => unfold maxLen; omega
          case c4 => omega
          case c5 => have := (unhide HB2').size; simp; omega
          intro v3 w3 hown3 hgrow _
          obtain ⟨a3, cap3, rfl⟩ := ownsRow_form hown3
          have HB3 := hide (Below.grown ((unhide HB2').alloc (unhide HB2').size _) hgrow (by have := (unhide HB2').size; simp; omega) (fun k hk => ((unhide HOWN2).lt k hk).1))
          have HOWN3 := hide hown3
          clear hown3 hgrow hbw
          go_wp2
          go_roundw
          case rel =>
            refine ⟨k + 1, by omega, by go_num, ?_, fun j hj => ?_, unhide HB3⟩
            · have := unhide HOWN3
              rw [codeTo_succ, List.flatMap_append, ← unhide HX]
              simpa using this
            · by_cases e : j = k
              · subst e; exact unhide HGO
              · exact unhide HNO j (by omega)
          case measure => simp [intOf]; omega
    · have hkc : k = cntI s := by rw [← unhide HC]; omega
      have HE := hide (show vE s = 0 ∧ vP s = 0 by
        have : ¬ vIx s < cntI s := by rw [vIx, firstIx_none (fun j hj => unhide HNO j (by omega))]; omega
        rw [vE, vP, if_neg hlong, if_neg hlong, if_neg this, if_neg this]; exact ⟨rfl, rfl⟩)
      have HKC := hide hkc
      clear hkc
      go_wp2
      go_ret3
      refine ⟨⟨_, _, _, by rw [(unhide HE).1, (unhide HE).2]; rfl, fun _ => ?_⟩, unhide HB⟩
      have := ownsRow_base (unhide HOWN)
      rw [unhide HKC] at this ⊢
      rw [InsAt, codeL, codeTo_len]
      exact this

end Go.Proofs.Ytljodhcfimklkab
