import Derived.Test.YtoihlnjcgopdlaaJ4
namespace Go.Proofs.Ytoihlnjcgopdlaa
open Go.RowKit

/-- What a run of a code that is admitted fills in, and reads. -/
def fillL (L : List Ins) (Z : List Int) (n : Nat) : ByteArray × Int × Int :=
  if (runL L (st0 Z)).2.1 ≠ 0 then (noBytes, (runL L (st0 Z)).2.1, (runL L (st0 Z)).2.2) else (payB (runL L (st0 Z)).1.N n, 0, 0)
def readL (L : List Ins) (p : ByteArray) : List Int × ByteArray × Int × Int :=
  if (runL L (stN (payTo p p.size))).2.1 ≠ 0 then ([], noBytes, (runL L (stN (payTo p p.size))).2.1, (runL L (stN (payTo p p.size))).2.2)
  else (regsM (runL L (stN (payTo p p.size))).1 8, strOfNums (signsM (runL L (stN (payTo p p.size))).1 8), 0, 0)

set_option maxRecDepth 100000 in
set_option maxHeartbeats 2000000 in
theorem rFill_any (L : List Ins) (vz : Value) (Z : List Int) (n : Nat) (w : World) (hf : Fine L) (hl : L.length ≤ 96) (hz : IntsAt w vz Z) (hz8 : Z.length ≤ 8) (hn : n ≤ 8) :
    Calls Try.prog 31 #[.string (codeB L), vz, .int .i64 n] w fun e w' => e = .returned (.tuple #[.string (fillL L Z n).1, .int .i64 (fillL L Z n).2.1, .int .i64 (fillL L Z n).2.2]) ∧ Below w.heap.size w w' := by
  have HZ := hide hz
  obtain ⟨za, zcap, rfl, hz1, hz2, hz3⟩ := hz
  have HZ2 := hide hz2
  have HZ3 := hide hz3
  have HF := hide hf
  clear hz2 hz3 hf
  have hn0 : (0 : Int) ≤ (n : Int) := by omega
  have hn8 : (n : Int) ≤ 8 := by omega
  have hz8' : (Z.length : Int) ≤ 8 := by omega
  obtain ⟨R, HR⟩ : ∃ R, Hid (R = runL L (st0 Z)) := ⟨_, hide rfl⟩
  have HO := hide (show fillL L Z n = if R.2.1 ≠ 0 then (noBytes, R.2.1, R.2.2) else (payB R.1.N n, 0, 0) by rw [fillL, unhide HR])
  go_enter Try.func31, Try.ntmps31
  go_wp2_with fail
  refine (rVerify_ok L _ (unhide HF) hl).mono ?_
  rintro e w0 ⟨rfl, hb0⟩
  have HB0 := hide hb0
  clear hb0
  go_wp2_with fail
  refine (fresh_any _).mono ?_
  rintro e w1 ⟨gm, g1, g2, g3, rfl, hm1, hb1⟩
  have HM1 := hide hm1
  have HB1 := hide hb1
  have hl1 := hm1.l1.1
  clear hm1 hb1
  go_wp2
  go_loopw [12] (fun i wr => ∃ k : Nat, k ≤ Z.length ∧ i = .int .i64 k ∧ RM wr w0.heap.size gm g1 g2 g3 (stTo Z k) ∧ Below w0.heap.size w0 wr) (fun i _ => Z.length - (intOf i).toNat)
  case atStart => exact ⟨0, by omega, rfl, unhide HM1, unhide HB1⟩
  case round =>
    obtain ⟨k, hk, rfl, hm, hb⟩ := hrel
    have HM := hide hm
    have HB := hide hb
    clear hm hb
    by_cases hlt : k < Z.length
    · cases za with
      | none => have := unhide HZ2 rfl; omega
      | some xa =>
        have hzc := fun (wx : World) (h : Below w0.heap.size w0 wx ∧ wx.heap[gm]? = some (.cells #[.slice (some ⟨g1, 0, none⟩) 8 8, .slice (some ⟨g2, 0, none⟩) 64 64, .slice (some ⟨g3, 0, none⟩) 8 8] 107 (0, 0))) => ints_cell (unhide HZ3 xa rfl) ((unhide HB0).trans (h.1.mono (unhide HB0).size)) hlt
        have hbm := fun (wx : World) (h : Below w0.heap.size w0 wx ∧ wx.heap[gm]? = some (.cells #[.slice (some ⟨g1, 0, none⟩) 8 8, .slice (some ⟨g2, 0, none⟩) 64 64, .slice (some ⟨g3, 0, none⟩) 8 8] 107 (0, 0))) => blk_cell h.2
        have hi0 : (0 : Int) ≤ (k : Int) := by omega
        have hi1 : (k : Int) < (Z.length : Int) := by omega
        have hi2 : (k : Int) < 8 := by omega
        go_wp2
        refine wp_region_noPanic ?_
        refine wp_region_held_drew (S := fun wx => Below w0.heap.size w0 wx ∧ wx.heap[gm]? = some (.cells #[.slice (some ⟨g1, 0, none⟩) 8 8, .slice (some ⟨g2, 0, none⟩) 64 64, .slice (some ⟨g3, 0, none⟩) 8 8] 107 (0, 0))) (by kernel_rfl) ⟨(unhide HB).drew, (unhide HM).box⟩ (fun hHeld => ?_)
        have HM2 := hide ((unhide HM).bel (Below.refl wr.heap.size wr).drew)
        have hrc := (unhide HM2).reg (show k < 8 by omega)
        have hfr := (unhide HM2).regs.frozenAt k
        have HS := hide ((unhide HM2).setReg k (zAt Z k))
        have hS9 := And.intro (hHeld.1.setCell (p := ⟨g1, k, none⟩) hl1 (.int .i64 (zAt Z k))) (unhide HS).box
        have HB9 := hide hS9.1
        rw [stTo_succ] at HS
        refine wpAnyH_take (i := 0) (v := ?_) (at_list rfl) (by kernel_rfl) (by kernel_rfl) (by kernel_rfl) (fun _ _ _ h => h) (Or.inl ⟨by rfl, ?_⟩) (by assumption) ?_
        rotate_left
        · intro w hSw; (try dsimp only at hSw); first | (go_simp; done) | (go_simp; with_reducible rfl)
        try simp only [Act.put]
        try simp only [List.setIfInBounds_toArray]
        try simp only [List.set_cons_succ]
        try simp only [List.set_cons_zero]
        refine wpAnyH_take (i := 1) (v := ?_) (at_list rfl) (by kernel_rfl) (by kernel_rfl) (by kernel_rfl) (fun _ _ _ h => h) (Or.inl ⟨by rfl, ?_⟩) (by assumption) ?_
        rotate_left
        · intro w hSw; (try dsimp only at hSw); first | (go_simp; done) | (go_simp; with_reducible rfl)
        try simp only [Act.put]
        try simp only [List.setIfInBounds_toArray]
        try simp only [List.set_cons_succ]
        try simp only [List.set_cons_zero]
        refine wpAnyH_take (i := 2) (v := ?_) (at_list rfl) (by kernel_rfl) (by kernel_rfl) (by kernel_rfl) (fun _ _ _ h => h) (Or.inl ⟨by rfl, ?_⟩) (by assumption) ?_
        rotate_left
        · intro w hSw; (try dsimp only at hSw); first | (go_simp; done) | (go_simp; with_reducible rfl)
        try simp only [Act.put]
        try simp only [List.setIfInBounds_toArray]
        try simp only [List.set_cons_succ]
        try simp only [List.set_cons_zero]
        refine wpAnyH_take (i := 3) (v := ?_) (at_list rfl) (by kernel_rfl) (by kernel_rfl) (by kernel_rfl) (fun _ _ _ h => h) (Or.inl ⟨by rfl, ?_⟩) (by assumption) ?_
        rotate_left
        · intro w hSw; (try dsimp only at hSw); first | (go_simp; done) | (go_simp; with_reducible rfl)
        try simp only [Act.put]
        try simp only [List.setIfInBounds_toArray]
        try simp only [List.set_cons_succ]
        try simp only [List.set_cons_zero]
        refine wpAnyH_take (i := 4) (v := ?_) (at_list rfl) (by kernel_rfl) (by kernel_rfl) (by kernel_rfl) (fun _ _ _ h => h) (Or.inl ⟨by rfl, ?_⟩) (by assumption) ?_
        rotate_left
        · intro w hSw; (try dsimp only at hSw); first | (go_simp; done) | (go_simp; with_reducible rfl)
        try simp only [Act.put]
        try simp only [List.setIfInBounds_toArray]
        try simp only [List.set_cons_succ]
        try simp only [List.set_cons_zero]
        refine wpAnyH_take (i := 5) (v := ?_) (at_list rfl) (by kernel_rfl) (by kernel_rfl) (by kernel_rfl) (fun _ _ _ h => h) (Or.inl ⟨by rfl, ?_⟩) (by assumption) ?_
        rotate_left
        · intro w hSw; (try dsimp only at hSw); first | (go_simp; done) | (go_simp; with_reducible rfl)
        try simp only [Act.put]
        try simp only [List.setIfInBounds_toArray]
        try simp only [List.set_cons_succ]
        try simp only [List.set_cons_zero]
        refine wpAnyH_take (i := 6) (v := ?_) (at_list rfl) (by kernel_rfl) (by kernel_rfl) (by kernel_rfl) (fun _ _ _ h => h) (Or.inl ⟨by rfl, ?_⟩) (by assumption) ?_
        rotate_left
        · intro w hSw; (try dsimp only at hSw); first | (go_simp; done) | (go_simp; with_reducible rfl)
        try simp only [Act.put]
        try simp only [List.setIfInBounds_toArray]
        try simp only [List.set_cons_succ]
        try simp only [List.set_cons_zero]
        refine wpAnyH_take (i := 7) (v := ?_) (at_list rfl) (by kernel_rfl) (by kernel_rfl) (by kernel_rfl) (fun _ _ _ h => h) (Or.inl ⟨by rfl, ?_⟩) (by assumption) ?_
        rotate_left
        · intro w hSw; (try dsimp only at hSw); first | (go_simp; done) | (go_simp; with_reducible rfl)
        try simp only [Act.put]
        try simp only [List.setIfInBounds_toArray]
        try simp only [List.set_cons_succ]
        try simp only [List.set_cons_zero]
        refine wpAnyH_take (i := 8) (v := ?_) (at_list rfl) (by kernel_rfl) (by kernel_rfl) (by kernel_rfl) (fun _ _ _ h => h) (Or.inl ⟨by rfl, ?_⟩) (by assumption) ?_
        rotate_left
        · intro w hSw; (try dsimp only at hSw); first | (go_simp; done) | (go_simp; with_reducible rfl)
        try simp only [Act.put]
        try simp only [List.setIfInBounds_toArray]
        try simp only [List.set_cons_succ]
        try simp only [List.set_cons_zero]
        refine wpAnyH_take (i := 9) (v := ?_) (at_list rfl) (by kernel_rfl) (by kernel_rfl) (by kernel_rfl) (fun _ _ _ h => h) (Or.inl ⟨by rfl, ?_⟩) (by assumption) ?_
        rotate_left
        · intro w hSw; (try dsimp only at hSw); first | (go_simp; done) | (go_simp; with_reducible rfl)
        try simp only [Act.put]
        try simp only [List.setIfInBounds_toArray]
        try simp only [List.set_cons_succ]
        try simp only [List.set_cons_zero]
        refine wpAnyH_ready (rs := [10]) (by kernel_rfl) (by simp) ?_
        refine AllReadyH.cons (at_list rfl) (fun K hK => ?_) AllReadyH.nil
        go_simp
        refine hK.out _ _ (hS9) (fun hHeld => ?_)
        clear hK K
        try simp only [Act.put]
        try simp only [List.setIfInBounds_toArray]
        try simp only [List.set_cons_succ]
        try simp only [List.set_cons_zero]
        refine wpAnyH_done (by kernel_rfl) ?_ _
        refine NoPanic.normal ?_
        clear hzc hbm
        go_wp2
        go_roundw
        case rel => exact ⟨k + 1, by omega, by go_num, unhide HS, unhide HB9⟩
        case measure => simp [intOf]; omega
    · have hkz : k = Z.length := by omega
      rw [hkz, stTo_all] at HM
      have hi1 : ¬ (k : Int) < (Z.length : Int) := by omega
      clear hkz
      go_wp2_with fail
      refine (rRun_any w0.heap.size gm g1 g2 g3 L (st0 Z) _ (unhide HM) (unhide HB).size (unhide HF) hl).mono ?_
      rintro e w2 ⟨rfl, hm2, hb2⟩
      rw [← unhide HR] at hm2 ⊢
      have HM2 := hide hm2
      have HB2 := hide ((unhide HB0).trans (((unhide HB).trans hb2).mono (unhide HB0).size))
      clear hm2 hb2
      by_cases hre : R.2.1 ≠ 0
      · have HP := hide (pk_eta _ (show fillL L Z n = (noBytes, R.2.1, R.2.2) by rw [unhide HO, if_pos hre]))
        have hre2 : (R.2.1 != 0) = true := by simpa using hre
        clear hre
        go_wp2
        go_ret3
        exact ⟨by rw [(unhide HP).1, (unhide HP).2.1, (unhide HP).2.2]; rfl, unhide HB2⟩
      · have HP := hide (pk_eta _ (show fillL L Z n = (payB R.1.N n, 0, 0) by rw [unhide HO, if_neg hre]))
        have hre2 : (R.2.1 != 0) = false := by simpa using hre
        clear hre
        go_wp2_with fail
        refine (rBytesOf_any w0.heap.size gm g1 g2 g3 R.1 n _ (unhide HM2) hn).mono ?_
        rintro e w3 ⟨rfl, hb3⟩
        have HB3 := hide ((unhide HB2).trans (hb3.mono (unhide HB2).size))
        clear hb3
        go_wp2
        go_ret3
        exact ⟨by rw [(unhide HP).1, (unhide HP).2.1, (unhide HP).2.2]; rfl, unhide HB3⟩

set_option maxRecDepth 100000 in
set_option maxHeartbeats 2000000 in
theorem rMRead_any (L : List Ins) (p : ByteArray) (w : World) (hf : Fine L) (hl : L.length ≤ 96) (hp8 : p.size ≤ 8) :
    Calls Try.prog 33 #[.string (codeB L), .string p] w fun e w' => (∃ u, e = .returned (.tuple #[u, .string (readL L p).2.1, .int .i64 (readL L p).2.2.1, .int .i64 (readL L p).2.2.2]) ∧ IntsAt w' u (readL L p).1) ∧ Below w.heap.size w w' := by
  have HF := hide hf
  have hsz := codeB_size L
  clear hf
  have hs1 : ((codeB L).size : Int) ≤ 480 := by omega
  have hp8' : (p.size : Int) ≤ 8 := by omega
  obtain ⟨N, HN⟩ : ∃ N, Hid (N = payTo p p.size) := ⟨_, hide rfl⟩
  obtain ⟨R, HR⟩ : ∃ R, Hid (R = runL L (stN N)) := ⟨_, hide rfl⟩
  have HNL := hide (show N % 2 ^ (8 * p.size) = N by rw [unhide HN]; exact Nat.mod_eq_of_lt (payTo_lt p p.size))
  have HO := hide (show readL L p = if R.2.1 ≠ 0 then ([], noBytes, R.2.1, R.2.2) else (regsM R.1 8, strOfNums (signsM R.1 8), 0, 0) by rw [readL, unhide HR, unhide HN])
  go_enter Try.func33, Try.ntmps33
  go_wp2_with fail
  refine (rVerify_ok L _ (unhide HF) hl).mono ?_
  rintro e w0 ⟨rfl, hb0⟩
  have HB0 := hide hb0
  clear hb0
  go_wp2_with fail
  refine (fresh_any _).mono ?_
  rintro e w1 ⟨gm, g1, g2, g3, rfl, hm1, hb1⟩
  have HM1 := hide hm1
  have HB1 := hide hb1
  have hl2 := hm1.l2.1
  clear hm1 hb1
  go_wp2
  go_loopw [11] (fun i wr => ∃ k : Nat, k ≤ 8 * p.size ∧ i = .int .i64 k ∧ RM wr w0.heap.size gm g1 g2 g3 (stN (N % 2 ^ k)) ∧ Below w0.heap.size w0 wr) (fun i _ => 8 * p.size - (intOf i).toNat)
  case atStart => exact ⟨0, by omega, rfl, by rw [Nat.pow_zero, Nat.mod_one]; exact unhide HM1, unhide HB1⟩
  case round =>
    obtain ⟨k, hk, rfl, hm, hb⟩ := hrel
    have HM := hide hm
    have HB := hide hb
    clear hm hb
    by_cases hlt : k < 8 * p.size
    · have hbm := fun (wx : World) (h : wx.heap[gm]? = some (.cells #[.slice (some ⟨g1, 0, none⟩) 8 8, .slice (some ⟨g2, 0, none⟩) 64 64, .slice (some ⟨g3, 0, none⟩) 8 8] 107 (0, 0))) => blk_cell h
      have hi0 : (0 : Int) ≤ (k : Int) := by omega
      have hi1 : (k : Int) < 8 * (p.size : Int) := by omega
      have hi2 : (k : Int) < 64 := by omega
      go_wp2
      refine wp_region_noPanic ?_
      refine wp_region_held_drew (S := fun wx => wx.heap[gm]? = some (.cells #[.slice (some ⟨g1, 0, none⟩) 8 8, .slice (some ⟨g2, 0, none⟩) 64 64, .slice (some ⟨g3, 0, none⟩) 8 8] 107 (0, 0))) (by kernel_rfl) (unhide HM).box (fun hHeld => ?_)
      have HM2 := hide ((unhide HM).bel (Below.refl wr.heap.size wr).drew)
      have hrc := (unhide HM2).bit (show k < 64 by omega)
      have hfr := (unhide HM2).bits.frozenAt k
      have hst := (unhide HM2).setBit k (N.testBit k)
      simp only [stN, mod_setb] at hst
      rw [test_toNat] at hst
      have HST := hide (show RM _ w0.heap.size gm g1 g2 g3 (stN (N % 2 ^ (k + 1))) from hst)
      have hS9 := hst.box
      have HB9 := hide ((unhide HB).drew.setCell (p := ⟨g2, k, none⟩) hl2 (.int .i64 (bitN N k : Int)))
      clear hst
      refine wpAnyH_take (i := 0) (v := ?_) (at_list rfl) (by kernel_rfl) (by kernel_rfl) (by kernel_rfl) (fun _ _ _ h => h) (Or.inl ⟨by rfl, ?_⟩) (by assumption) ?_
      rotate_left
      · intro w hSw; (try dsimp only at hSw); first | (go_simp; done) | (go_simp; with_reducible rfl)
      try simp only [Act.put]
      try simp only [List.setIfInBounds_toArray]
      try simp only [List.set_cons_succ]
      try simp only [List.set_cons_zero]
      refine wpAnyH_take (i := 1) (v := ?_) (at_list rfl) (by kernel_rfl) (by kernel_rfl) (by kernel_rfl) (fun _ _ _ h => h) (Or.inl ⟨by rfl, ?_⟩) (by assumption) ?_
      rotate_left
      · intro w hSw; (try dsimp only at hSw); first | (go_simp; done) | (go_simp; with_reducible rfl)
      try simp only [Act.put]
      try simp only [List.setIfInBounds_toArray]
      try simp only [List.set_cons_succ]
      try simp only [List.set_cons_zero]
      refine wpAnyH_take (i := 2) (v := ?_) (at_list rfl) (by kernel_rfl) (by kernel_rfl) (by kernel_rfl) (fun _ _ _ h => h) (Or.inl ⟨by rfl, ?_⟩) (by assumption) ?_
      rotate_left
      · intro w hSw; (try dsimp only at hSw); first | (go_simp; done) | (go_simp; with_reducible rfl)
      try simp only [Act.put]
      try simp only [List.setIfInBounds_toArray]
      try simp only [List.set_cons_succ]
      try simp only [List.set_cons_zero]
      refine wpAnyH_take (i := 3) (v := ?_) (at_list rfl) (by kernel_rfl) (by kernel_rfl) (by kernel_rfl) (fun _ _ _ h => h) (Or.inl ⟨by rfl, ?_⟩) (by assumption) ?_
      rotate_left
      · intro w hSw; (try dsimp only at hSw); first | (go_simp; done) | (go_simp; with_reducible rfl)
      try simp only [Act.put]
      try simp only [List.setIfInBounds_toArray]
      try simp only [List.set_cons_succ]
      try simp only [List.set_cons_zero]
      refine wpAnyH_take (i := 4) (v := ?_) (at_list rfl) (by kernel_rfl) (by kernel_rfl) (by kernel_rfl) (fun _ _ _ h => h) (Or.inl ⟨by rfl, ?_⟩) (by assumption) ?_
      rotate_left
      · intro w hSw; (try dsimp only at hSw); first | (go_simp; done) | (go_simp; with_reducible rfl)
      try simp only [Act.put]
      try simp only [List.setIfInBounds_toArray]
      try simp only [List.set_cons_succ]
      try simp only [List.set_cons_zero]
      refine wpAnyH_take (i := 5) (v := ?_) (at_list rfl) (by kernel_rfl) (by kernel_rfl) (by kernel_rfl) (fun _ _ _ h => h) (Or.inl ⟨by rfl, ?_⟩) (by assumption) ?_
      rotate_left
      · intro w hSw; (try dsimp only at hSw); first | (go_simp; done) | (go_simp; with_reducible rfl)
      try simp only [Act.put]
      try simp only [List.setIfInBounds_toArray]
      try simp only [List.set_cons_succ]
      try simp only [List.set_cons_zero]
      refine wpAnyH_take (i := 6) (v := ?_) (at_list rfl) (by kernel_rfl) (by kernel_rfl) (by kernel_rfl) (fun _ _ _ h => h) (Or.inl ⟨by rfl, ?_⟩) (by assumption) ?_
      rotate_left
      · intro w hSw; (try dsimp only at hSw); first | (go_simp; done) | (go_simp; with_reducible rfl)
      try simp only [Act.put]
      try simp only [List.setIfInBounds_toArray]
      try simp only [List.set_cons_succ]
      try simp only [List.set_cons_zero]
      refine wpAnyH_ready (rs := [7]) (by kernel_rfl) (by simp) ?_
      refine AllReadyH.cons (at_list rfl) (fun K hK => ?_) AllReadyH.nil
      go_simp
      refine (rGet_any p k _ hp8 hlt).mono ?_; rintro e w' ⟨rfl, rfl⟩; rw [← unhide HN]; dsimp only
      refine hK.out _ _ (hHeld) (fun hHeld => ?_)
      clear hK K
      try simp only [Act.put]
      try simp only [List.setIfInBounds_toArray]
      try simp only [List.set_cons_succ]
      try simp only [List.set_cons_zero]
      refine wpAnyH_take (i := 8) (v := ?_) (at_list rfl) (by kernel_rfl) (by kernel_rfl) (by kernel_rfl) (fun _ _ _ h => h) (Or.inl ⟨by rfl, ?_⟩) (by assumption) ?_
      rotate_left
      · intro w hSw; (try dsimp only at hSw); first | (go_simp; done) | (go_simp; with_reducible rfl)
      try simp only [Act.put]
      try simp only [List.setIfInBounds_toArray]
      try simp only [List.set_cons_succ]
      try simp only [List.set_cons_zero]
      refine wpAnyH_ready (rs := [9]) (by kernel_rfl) (by simp) ?_
      refine AllReadyH.cons (at_list rfl) (fun K hK => ?_) AllReadyH.nil
      go_simp
      refine hK.out _ _ (hS9) (fun hHeld => ?_)
      clear hK K
      try simp only [Act.put]
      try simp only [List.setIfInBounds_toArray]
      try simp only [List.set_cons_succ]
      try simp only [List.set_cons_zero]
      refine wpAnyH_done (by kernel_rfl) ?_ _
      refine NoPanic.normal ?_
      clear hbm
      go_wp2
      go_roundw
      case rel => exact ⟨k + 1, by omega, by go_num, unhide HST, unhide HB9⟩
      case measure => simp [intOf]; omega
    · have hkz : k = 8 * p.size := by omega
      rw [hkz, unhide HNL] at HM
      have hi1 : ¬ (k : Int) < 8 * (p.size : Int) := by omega
      clear hkz
      go_wp2_with fail
      refine (rRun_any w0.heap.size gm g1 g2 g3 L (stN N) _ (unhide HM) (unhide HB).size (unhide HF) hl).mono ?_
      rintro e w2 ⟨rfl, hm2, hb2⟩
      rw [← unhide HR] at hm2 ⊢
      have HM2 := hide hm2
      have HB2 := hide ((unhide HB0).trans (((unhide HB).trans hb2).mono (unhide HB0).size))
      clear hm2 hb2
      by_cases hre : R.2.1 ≠ 0
      · have HP := hide (rd_eta _ (show readL L p = ([], noBytes, R.2.1, R.2.2) by rw [unhide HO, if_pos hre]))
        have hre2 : (R.2.1 != 0) = true := by simpa using hre
        clear hre
        go_wp2
        exact bodyPost_ret (v := .tuple #[.slice none 0 0, .string noBytes, .int .i64 R.2.1, .int .i64 R.2.2]) (by simp [results, Try.results33, go_sem, noBytes]) rfl ⟨⟨_, by rw [(unhide HP).2.1, (unhide HP).2.2.1, (unhide HP).2.2.2], by rw [(unhide HP).1]; exact nil_ints _⟩, unhide HB2⟩
      have HP := hide (rd_eta _ (show readL L p = (regsM R.1 8, strOfNums (signsM R.1 8), 0, 0) by rw [unhide HO, if_neg hre]))
      have hre2 : (R.2.1 != 0) = false := by simpa using hre
      clear hre
      go_wp2
      go_loopw [14, 15] (fun t i wr => ∃ j : Nat, j ≤ 8 ∧ i = .int .i64 j ∧ t = .string (strOfNums (signsM R.1 j)) ∧ wr = w2) (fun _ i _ => 8 - (intOf i).toNat)
      case atStart => exact ⟨0, by omega, rfl, rfl, rfl⟩
      case round =>
        obtain ⟨j, hj, rfl, rfl, rfl⟩ := hrel
        have hbm := blk_cell (unhide HM2).box
        have hss := strOfNums_size (signsM R.1 j)
        rw [signsM_len] at hss
        by_cases hj8 : j < 8
        · have hmk := (unhide HM2).mark hj8
          have HPU := hide (str_push (signsM R.1 j) (signM R.1 j))
          rw [← signsM_succ] at HPU
          have hj0 : (0 : Int) ≤ (j : Int) := by omega
          have hj1 : (j : Int) < 8 := by omega
          cases hon : R.1.mark j with
          | true =>
            rw [hon] at hmk
            have HSG := hide (show signM R.1 j = 43 by simp [signM, hon])
            clear hon
            go_wp2
            go_roundw
            case rel => exact ⟨j + 1, by omega, by go_num, by rw [unhide HPU, unhide HSG]; rfl, trivial⟩
            case measure => simp [intOf]; omega
          | false =>
            rw [hon] at hmk
            have HSG := hide (show signM R.1 j = 45 by simp [signM, hon])
            clear hon
            go_wp2
            go_roundw
            case rel => exact ⟨j + 1, by omega, by go_num, by rw [unhide HPU, unhide HSG]; rfl, trivial⟩
            case measure => simp [intOf]; omega
        · have hjn : j = 8 := by omega
          subst hjn
          have HI := hide (IntsAt_row (Z := regsM R.1 8) (by rw [regsM_len]; exact (unhide HM2).regs))
          go_wp2
          exact bodyPost_ret (v := .tuple #[.slice (some ⟨g1, 0, none⟩) 8 8, .string (strOfNums (signsM R.1 8)), .int .i64 0, .int .i64 0]) (by simp [results, Try.results33, go_sem]) rfl ⟨⟨_, by rw [(unhide HP).2.1, (unhide HP).2.2.1, (unhide HP).2.2.2], by rw [(unhide HP).1]; exact unhide HI⟩, unhide HB2⟩

end Go.Proofs.Ytoihlnjcgopdlaa

namespace Go.Proofs.Ytoihlnjcgopdlaa
open Go.RowKit

theorem shifts_take (L : List Ins) (a : Nat) (h : a < L.length) : shifts (L.take (a + 1)) = shifts (L.take a) + if isMove (inAt L a) then 1 else 0 := by
  rw [List.take_succ_eq_append_getElem h, shifts_app, inAt_eq L a h]
  simp [shifts, List.countP_cons]

set_option maxRecDepth 100000 in
set_option maxHeartbeats 2000000 in
theorem rShifts_any (L : List Ins) (w : World) (hf : Fine L) (hl : L.length ≤ 96) :
    Calls Try.prog 62 #[.string (codeB L)] w fun e w' => e = .returned (.int .i64 (shifts L)) ∧ Below w.heap.size w w' := by
  have HF := hide hf
  have hsz := codeB_size L
  have hq : ((codeB L).size : Int) / 5 = (L.length : Int) := by omega
  clear hf
  go_enter Try.func62, Try.ntmps62
  go_wp2
  go_loopw [3, 4] (fun c i wr => ∃ a : Nat, i = .int .i64 a ∧ a ≤ L.length ∧ c = .int .i64 (shifts (L.take a)) ∧ Below w.heap.size w wr) (fun _ i _ => L.length - (intOf i).toNat)
  case atStart => exact ⟨0, rfl, by omega, rfl, Below.refl _ _⟩
  case round =>
    obtain ⟨a, rfl, ha, rfl, hb⟩ := hrel
    have HB := hide hb
    clear hb
    by_cases hlt : a < L.length
    · obtain ⟨x, HX⟩ : ∃ x, Hid (x = inAt L a) := ⟨_, hide rfl⟩
      obtain ⟨hbyt, hkn⟩ := unhide HF a x (by rw [unhide HX]; exact inAt_some L a hlt)
      have HIX := hide (show insAt (codeB L) a = x from insAt_code (by rw [unhide HX]; exact inAt_some L a hlt) hbyt)
      have HST := hide (shifts_take L a hlt)
      rw [← unhide HX] at HST
      have hcl : shifts (L.take a) ≤ 96 := Nat.le_trans (List.countP_le_length) (by simp; omega)
      have hi1 : (a : Int) < (L.length : Int) := by omega
      clear hbyt hkn
      generalize shifts (L.take a) = c at *
      go_wp2_with fail
      refine (rAt_any (codeB L) a _ (by omega) (by omega)).mono ?_
      rintro e w1 ⟨rfl, hb1⟩
      rw [unhide HIX]
      have HB1 := hide ((unhide HB).trans (hb1.mono (unhide HB).size))
      clear hb1
      by_cases h80 : x.op = 80
      · have h80b : (x.op == 80) = true := by simpa using h80
        have HI := hide (show shifts (L.take (a + 1)) = c + 1 by rw [unhide HST, if_pos (by simp [isMove, h80])])
        clear h80
        go_wp2
        go_roundw
        case rel => exact ⟨a + 1, by go_num, by omega, by rw [unhide HI]; go_num, (unhide HB1).alloc (unhide HB1).size _⟩
        case measure => simp [intOf]; omega
      · have h80b : (x.op == 80) = false := by simpa using h80
        by_cases h71 : x.op = 71
        · have h71b : (x.op == 71) = true := by simpa using h71
          have HI := hide (show shifts (L.take (a + 1)) = c + 1 by rw [unhide HST, if_pos (by simp [isMove, h71])])
          clear h80 h71
          go_wp2
          go_roundw
          case rel => exact ⟨a + 1, by go_num, by omega, by rw [unhide HI]; go_num, (unhide HB1).alloc (unhide HB1).size _⟩
          case measure => simp [intOf]; omega
        · have h71b : (x.op == 71) = false := by simpa using h71
          have HI := hide (show shifts (L.take (a + 1)) = c by rw [unhide HST, if_neg (by simp [isMove, h71, h80])]; rfl)
          clear h80 h71
          go_wp2
          go_roundw
          case rel => exact ⟨a + 1, by go_num, by omega, by rw [unhide HI], (unhide HB1).alloc (unhide HB1).size _⟩
          case measure => simp [intOf]; omega
    · have hk : shifts (L.take a) = shifts L := by rw [List.take_of_length_le (by omega)]
      have HK := hide hk
      have hi1 : ¬ (a : Int) < (L.length : Int) := by omega
      clear hk
      go_wp2
      go_ret
      exact ⟨ret_int (by rw [unhide HK]), unhide HB⟩

/-- Has one of the first k bits of the signal its place in byte b? -/
def hitK (s : Sg) (b k : Nat) : Bool := anyIx (fun j => decide (place s.st s.ln s.od j / 8 = b)) k
theorem hitK_succ (s : Sg) (b k : Nat) : hitK s b (k + 1) = (hitK s b k || decide (place s.st s.ln s.od k / 8 = b)) := by
  rw [Bool.eq_iff_iff, Bool.or_eq_true, hitK, hitK, anyIx_true, anyIx_true]
  constructor
  · rintro ⟨j, hj, h⟩
    by_cases e : j = k
    · subst e; exact .inr h
    · exact .inl ⟨j, by omega, h⟩
  · rintro (⟨j, hj, h⟩ | h)
    · exact ⟨j, by omega, h⟩
    · exact ⟨k, by omega, h⟩
theorem hitK_all (s : Sg) (b : Nat) : hitK s b s.ln.toNat = hitB s b := rfl
theorem cntB_max (P : Nat → Bool) (n : Nat) : cntB P n ≤ n := by
  induction n with
  | zero => simp [cntB]
  | succ n ih => rw [cntB]; split <;> omega
theorem pairs_max (L : List Sg) (n k : Nat) (hn : n ≤ 8) : pairsTo L n k ≤ 8 * k := by
  induction k with
  | zero => simp [pairsTo]
  | succ k ih => rw [pairsTo]; have := cntB_max (hitB (sgAt L k)) n; omega

theorem place_two {s : Sg} (ok : s.Ok) (i : Int) (h0 : 0 ≤ i) (h1 : i < s.ln) : place s.st s.ln s.od i ≤ 200 := by
  have := ok.st0
  have := ok.st1
  have := ok.ln0
  have := ok.ln1
  unfold place
  split
  · omega
  · unfold mir; omega

set_option maxRecDepth 100000 in
set_option maxHeartbeats 4000000 in
theorem rMoves_any (id : ByteArray) (n : Nat) (pl : Int) (v : Value) (L : List Sg) (w : World) (h : RSigsAt w v L) (hg : Good L) (hn : n ≤ 8) :
    Calls Try.prog 61 #[.agg #[.string id, .int .i64 n, v, .int .i64 pl]] w fun e w' => e = .returned (.int .i64 (pairsTo L n L.length)) ∧ Below w.heap.size w w' := by
  have hl := hg.1
  have HG := hide hg
  clear hg
  rcases h.opened with ⟨rfl, a, cc, rfl⟩ | ⟨g, cap, rfl, hgl, hcap, hcm, hc⟩
  · go_enter Try.func61, Try.ntmps61
    go_wp2
    refine wp_loop_rounds 1 ?_
    rw [rounds_succ]
    go_wp2
    go_ret
    exact ⟨rfl, (Below.refl _ _).alloc (Nat.le_refl _) _⟩
  have HC := hide hc
  clear hc h
  have hbox := fun (wx : World) (h : Below (w.heap.size + 1) (w.alloc (.cells #[.string id, .int .i64 n, .slice (some ⟨g, 0, none⟩) L.length cap, .int .i64 pl] 45)) wx) => box_cell h
  go_enter Try.func61, Try.ntmps61
  go_wp2
  go_loopw [3, 4, 5, 6, 7, 8] (fun c i _ _ _ _ wr => ∃ k : Nat, k ≤ L.length ∧ i = .int .i64 k ∧ c = .int .i64 (pairsTo L n k) ∧ Below (w.heap.size + 1) (w.alloc (.cells #[.string id, .int .i64 n, .slice (some ⟨g, 0, none⟩) L.length cap, .int .i64 pl] 45)) wr) (fun _ i _ _ _ _ _ => L.length - (intOf i).toNat)
  case atStart => exact ⟨0, by omega, rfl, rfl, Below.refl _ _⟩
  case round =>
    obtain ⟨k, hk, rfl, rfl, hb⟩ := hrel
    have HB := hide hb
    have hbw := hbox _ hb
    clear hb
    by_cases hlt : k < L.length
    · obtain ⟨ok, r0, r1⟩ := (unhide HG).2 k hlt
      have OK := hide ok
      have hi0 : (0 : Int) ≤ (k : Int) := by omega
      have hi1 : (k : Int) < (L.length : Int) := by omega
      have hpm := pairs_max L n k hn
      have HPS := hide (show pairsTo L n (k + 1) = pairsTo L n k + cntB (hitB (sgAt L k)) n from rfl)
      clear ok r0 r1
      generalize pairsTo L n k = c0 at *
      go_wp2
      clear hbw
      go_loopw [3, 5, 6, 7, 8] (fun c i _ _ _ wr => ∃ b : Nat, b ≤ n ∧ i = .int .i64 b ∧ c = .int .i64 ((c0 : Int) + (cntB (hitB (sgAt L k)) b : Int)) ∧ Below (w.heap.size + 1) (w.alloc (.cells #[.string id, .int .i64 n, .slice (some ⟨g, 0, none⟩) L.length cap, .int .i64 pl] 45)) wr) (fun _ i _ _ _ _ => n - (intOf i).toNat)
      case atStart => exact ⟨0, by omega, rfl, by simp [cntB], unhide HB⟩
      case round =>
        obtain ⟨b, hbn, rfl, rfl, hb2⟩ := hrel
        have HB2 := hide hb2
        have hbw := hbox _ hb2
        clear hb2
        by_cases hb8 : b < n
        · have hj1 : (b : Int) < (n : Int) := by omega
          have hcm2 := cntB_max (hitB (sgAt L k)) b
          have HCS := hide (show cntB (hitB (sgAt L k)) (b + 1) = cntB (hitB (sgAt L k)) b + if hitB (sgAt L k) b then 1 else 0 from rfl)
          generalize cntB (hitB (sgAt L k)) b = c1 at *
          go_wp2
          clear hbw
          go_loopw [6, 7, 8] (fun t i _ wr => ∃ j : Nat, (j : Int) ≤ (sgAt L k).ln ∧ i = .int .i64 j ∧ t = .bool (hitK (sgAt L k) b j) ∧ Below (w.heap.size + 1) (w.alloc (.cells #[.string id, .int .i64 n, .slice (some ⟨g, 0, none⟩) L.length cap, .int .i64 pl] 45)) wr) (fun _ i _ _ => ((sgAt L k).ln - intOf i).toNat)
          case atStart => exact ⟨0, by have := (unhide OK).ln0; omega, rfl, rfl, unhide HB2⟩
          case round =>
            obtain ⟨j, hj, rfl, rfl, hb3⟩ := hrel
            have HB3 := hide hb3
            have hbw := hbox _ hb3
            have cn := rcells7 (unhide HC) hgl (box_below hb3) hlt
            clear hb3
            by_cases hjl : (j : Int) < (sgAt L k).ln
            · have hp0 := place_lo (sgAt L k).st (sgAt L k).ln (sgAt L k).od j (unhide OK).st0 (by omega) hjl
              have hp1 := place_two (unhide OK) j (by omega) hjl
              have hln32 := (unhide OK).ln1
              have HKS := hide (hitK_succ (sgAt L k) b j)
              generalize hitK (sgAt L k) b j = t0 at *
              go_wp2_with fail
              refine (rBit_any _ (sgAt L k).st (sgAt L k).ln _ _ j (sgAt L k).od (sgAt L k).kd _ (unhide OK).st0 (unhide OK).st1 (unhide OK).ln0 (unhide OK).ln1 (unhide OK).od (by omega) hjl).mono ?_
              rintro e w4 ⟨rfl, hb4⟩
              have HB4 := hide (box_next (unhide HB3) hb4)
              clear hb4 cn hbw
              generalize place (sgAt L k).st (sgAt L k).ln (sgAt L k).od j = q at *
              by_cases hh : q / 8 = (b : Int)
              · have hh2 : (q / 8 == (b : Int)) = true := by simpa using hh
                have HT := hide (show hitK (sgAt L k) b (j + 1) = true by rw [unhide HKS]; simp [hh])
                clear hh
                go_wp2
                go_roundw
                case rel => exact ⟨j + 1, by omega, by go_num, by rw [unhide HT], unhide HB4⟩
                case measure => simp [intOf]; omega
              · have hh2 : (q / 8 == (b : Int)) = false := by simpa using hh
                have HT := hide (show hitK (sgAt L k) b (j + 1) = t0 by rw [unhide HKS]; simp [hh])
                clear hh
                go_wp2
                go_roundw
                case rel => exact ⟨j + 1, by omega, by go_num, by rw [unhide HT], unhide HB4⟩
                case measure => simp [intOf]; omega
            · have hjn : (sgAt L k).ln.toNat = j := by omega
              have HT := hide (show hitK (sgAt L k) b j = hitB (sgAt L k) b by rw [← hitK_all, hjn])
              rw [unhide HT]
              clear hjn
              cases hhit : hitB (sgAt L k) b with
              | true =>
                rw [hhit] at HCS
                have HC2 := hide (show (c0 : Int) + (cntB (hitB (sgAt L k)) (b + 1) : Int) = (c0 : Int) + (c1 : Int) + 1 by rw [unhide HCS]; simp; omega)
                clear hhit HT
                go_wp2
                go_roundw
                case rel => exact ⟨b + 1, by omega, by go_num, by rw [unhide HC2], unhide HB3⟩
                case measure => simp [intOf]; omega
              | false =>
                rw [hhit] at HCS
                have HC2 := hide (show (c0 : Int) + (cntB (hitB (sgAt L k)) (b + 1) : Int) = (c0 : Int) + (c1 : Int) by rw [unhide HCS]; simp)
                clear hhit HT
                go_wp2
                go_roundw
                case rel => exact ⟨b + 1, by omega, by go_num, by rw [unhide HC2], unhide HB3⟩
                case measure => simp [intOf]; omega
        · have hbn' : b = n := by omega
          have HN := hide (show (c0 : Int) + (cntB (hitB (sgAt L k)) b : Int) = (pairsTo L n (k + 1) : Int) by rw [unhide HPS, hbn']; simp)
          rw [unhide HN]
          have hj1 : ¬ (b : Int) < (n : Int) := by omega
          clear hbn'
          go_wp2
          go_roundw
          case rel => exact ⟨k + 1, by omega, by go_num, rfl, unhide HB2⟩
          case measure => simp [intOf]; omega
    · have hkn : k = L.length := by omega
      have HK := hide hkn
      have hi1 : ¬ (k : Int) < (L.length : Int) := by omega
      clear hkn
      go_wp2
      go_ret
      exact ⟨ret_int (by rw [unhide HK]), box_below (unhide HB)⟩

end Go.Proofs.Ytoihlnjcgopdlaa

namespace Go.Proofs.Ytoihlnjcgopdlaa
open Go.RowKit

/-- What is known where a code was compiled. -/
structure Cmp (s id : ByteArray) (M : List Mg) (k : Nat) : Prop where
  chk : chkE s = 0
  db : pDb s 4 0 = .inr M
  lt : k < M.length
  ix : msgIx M id = k
def COut (s id : ByteArray) (e : Ending) : Prop :=
  ((∀ M k, ¬ Cmp s id M k) ∧ e = .returned (.tuple #[.string { data := #[] }, .string { data := #[] }, .bool false, .bool true])) ∨
    ∃ M k, Cmp s id M k ∧ e = .returned (.tuple #[.string (codeB (packTo (mAt M k).sigs (mAt M k).sigs.length)), .string (codeB (unpackTo (mAt M k).sigs (mAt M k).sigs.length)), .bool true, .bool true])

theorem chk_320 {s : ByteArray} (h : chkE s = 0) : s.size ≤ 320 := by
  rcases Nat.lt_or_ge 320 s.size with hl | hl
  · rw [(chk_long hl).1] at h; omega
  · exact hl
theorem chk_some {s : ByteArray} (h : chkE s = 0) : ∃ M, pDb s 4 0 = .inr M := by
  have hl : ¬ 320 < s.size := by have := chk_320 h; omega
  cases hp : pDb s 4 0 with
  | inl p => rw [(chk_text hl hp).1] at h; omega
  | inr M => exact ⟨M, rfl⟩

set_option maxRecDepth 100000 in
set_option maxHeartbeats 4000000 in
theorem compiled_any (s id : ByteArray) (w : World) (hs : s.size ≤ maxLen) (hid : id.size ≤ maxLen) :
    Calls Try.prog 34 #[.string s, .string id] w fun e w' => COut s id e ∧ Below w.heap.size w w' := by
  go_enter Try.func34, Try.ntmps34
  go_wp2_with fail
  refine (Compile_any s id _ hs hid).mono ?_
  rintro e w1 ⟨rfl, hb1⟩
  have HB1 := hide hb1
  clear hb1
  go_wp2_with fail
  refine (rCheck_any s _ hs).mono ?_
  rintro e w2 ⟨rfl, hb2⟩
  have HB2 := hide ((unhide HB1).trans (hb2.mono (unhide HB1).size))
  clear hb2
  by_cases hz : chkE s ≠ 0
  · have HNO := hide (show ∀ M k, ¬ Cmp s id M k from fun M k h => hz h.chk)
    have hC := cm_eta _ (cmp_bad (id := id) hz)
    rw [hC.1, hC.2.1, hC.2.2.1, hC.2.2.2, noBytes]
    have hz2 : (chkE s != 0) = true := by simpa using hz
    have hee : (chkE s == chkE s) = true := by simp
    have hpp : (chkP s == chkP s) = true := by simp
    clear hz hC
    generalize chkE s = ce at *
    generalize chkP s = cp at *
    go_wp2_with (go_at_call 17; refine (num_any _ _).mono ?_; rintro e w' ⟨rfl, rfl⟩)
    exact bodyPost_ret (v := .tuple #[.string { data := #[] }, .string { data := #[] }, .bool false, .bool true]) (by simp [results, Try.results34, go_sem]) rfl ⟨.inl ⟨unhide HNO, rfl⟩, unhide HB2⟩
  have hz0 : chkE s = 0 := by omega
  obtain ⟨M, hpd⟩ := chk_some hz0
  have HZ := hide hz0
  have HPD := hide hpd
  rw [hz0]
  clear hz hz0 hpd
  go_wp2_with fail
  refine (rFind_any s id M _ (by have := chk_320 (unhide HZ); omega) (unhide HPD)).mono ?_
  rintro e w3 ⟨hout, hb3⟩
  have HB3 := hide ((unhide HB2).trans (hb3.mono (unhide HB2).size))
  clear hb3
  rcases hout with ⟨hix, rfl⟩ | ⟨k, sv, hk, hix, rfl, hsv⟩
  · have HNO := hide (show ∀ M k, ¬ Cmp s id M k from fun M' k h => by
      have := h.db; rw [unhide HPD] at this; cases this
      have := h.ix; omega)
    have hC := cm_eta _ (cmp_id (unhide HZ) (unhide HPD) hix)
    rw [hC.1, hC.2.1, hC.2.2.1, hC.2.2.2, noBytes]
    clear hC hix
    go_wp2_with (go_at_call 17; refine (num_any _ _).mono ?_; rintro e w' ⟨rfl, rfl⟩)
    exact bodyPost_ret (v := .tuple #[.string { data := #[] }, .string { data := #[] }, .bool false, .bool true]) (by simp [results, Try.results34, go_sem]) rfl ⟨.inl ⟨unhide HNO, rfl⟩, (unhide HB3).alloc (unhide HB3).size _⟩
  have HCM := hide (show Cmp s id M k from ⟨unhide HZ, unhide HPD, hk, hix⟩)
  have hC := cm_eta _ (cmp_msg (unhide HZ) (unhide HPD) hix)
  rw [hC.1, hC.2.1, hC.2.2.1, hC.2.2.2]
  obtain ⟨m, hm⟩ : ∃ m, m = mAt M k := ⟨_, rfl⟩
  have HME := hide hm
  have hmo := (good_of (unhide HPD) hk).1
  have HG := hide (good_of (unhide HPD) hk).2
  have HAF := hide (sound_fits (unhide HZ) (unhide HPD) hk)
  have HWI := hide (sound_within (unhide HZ) (unhide HPD) hk)
  have HSO := hide (sound_of (unhide HZ) (unhide HPD) hk)
  rw [← hm] at hsv hmo HG HAF HWI HSO
  rw [← hm]
  have hsz0 := hmo.sz0
  have hsz1 := hmo.sz1
  have hl8 := hmo.len
  obtain ⟨va, vcap, rfl⟩ := ownsRow_form hsv
  have HSV := hide hsv
  obtain ⟨q, hq⟩ : ∃ q : Nat, m.sz = q := ⟨m.sz.toNat, by omega⟩
  have hq8 : q ≤ 8 := by omega
  have HPF := hide (pack_fine (unhide HSO) (unhide HG) (unhide HAF) m.sigs.length (Nat.le_refl _))
  have HUF := hide (unpack_fine (unhide HSO) (unhide HG) (unhide HAF) m.sigs.length (Nat.le_refl _))
  have hps := pack_shifts (unhide HG) (unhide HWI) hsz0 m.sigs.length (Nat.le_refl _)
  have hus := unpack_few (unhide HG) (unhide HWI) hsz0
  rw [hq, Int.toNat_natCast] at hps hus
  rw [hq]
  have HPL := hide (show (packTo m.sigs m.sigs.length).length ≤ 96 by have := (unhide HPF).2; omega)
  have HUL := hide (show (unpackTo m.sigs m.sigs.length).length ≤ 96 by have := (unhide HUF).2; omega)
  have hcp : (shifts (packTo m.sigs m.sigs.length) : Int) ≤ (pairsTo m.sigs q m.sigs.length : Int) := by omega
  have hcu : (shifts (unpackTo m.sigs m.sigs.length) : Int) ≤ (pairsTo m.sigs q m.sigs.length : Int) := by omega
  have HBB : Hid (Below (w3.heap.size + 1) (w3.alloc (.cells #[.string m.id, .int .i64 q, .slice va m.sigs.length vcap, .int .i64 m.pl] 45)) (w3.alloc (.cells #[.string m.id, .int .i64 q, .slice va m.sigs.length vcap, .int .i64 m.pl] 45))) := hide (Below.refl _ _)
  clear hC hsv hmo hix hk hm hps hus hsz0 hsz1 hq
  go_wp2_with fail
  refine (rVerify_ok (packTo m.sigs m.sigs.length) _ (unhide HPF).1 (unhide HPL)).mono ?_
  rintro e w4 ⟨rfl, hb4⟩
  have HB4 := hide (box_next (unhide HBB) hb4)
  clear hb4
  go_wp2_with fail
  refine (rVerify_ok (unpackTo m.sigs m.sigs.length) _ (unhide HUF).1 (unhide HUL)).mono ?_
  rintro e w5 ⟨rfl, hb5⟩
  have HB5 := hide (box_next (unhide HB4) hb5)
  have hbx5 := box_cell (unhide HB5)
  clear hb5
  go_wp2_with fail
  refine (rMoves_any m.id q m.pl _ m.sigs _ (ownsRow_below (unhide HSV) (box_below (unhide HB5))) (unhide HG) hq8).mono ?_
  rintro e w6 ⟨rfl, hb6⟩
  have HB6 := hide (box_next (unhide HB5) hb6)
  clear hb6 hbx5
  go_wp2_with fail
  refine (rShifts_any (packTo m.sigs m.sigs.length) _ (unhide HPF).1 (unhide HPL)).mono ?_
  rintro e w7 ⟨rfl, hb7⟩
  have HB7 := hide (box_next (unhide HB6) hb7)
  clear hb7
  go_wp2_with fail
  refine (rShifts_any (unpackTo m.sigs m.sigs.length) _ (unhide HUF).1 (unhide HUL)).mono ?_
  rintro e w8 ⟨rfl, hb8⟩
  have HB8 := hide ((unhide HB3).trans ((box_below (box_next (unhide HB7) hb8)).mono (unhide HB3).size))
  clear hb8
  obtain ⟨A, HA⟩ : ∃ A, Hid (A = codeB (packTo m.sigs m.sigs.length)) := ⟨_, hide rfl⟩
  obtain ⟨U, HU⟩ : ∃ U, Hid (U = codeB (unpackTo m.sigs m.sigs.length)) := ⟨_, hide rfl⟩
  rw [← unhide HA, ← unhide HU]
  have HOUT := hide (show COut s id (.returned (.tuple #[.string A, .string U, .bool true, .bool true])) from .inr ⟨M, k, unhide HCM, by rw [unhide HA, unhide HU, unhide HME]⟩)
  generalize shifts (packTo m.sigs m.sigs.length) = x1 at *
  generalize shifts (unpackTo m.sigs m.sigs.length) = x2 at *
  generalize pairsTo m.sigs q m.sigs.length = x3 at *
  go_wp2_with (go_at_call 17; refine (num_any _ _).mono ?_; rintro e w' ⟨rfl, rfl⟩)
  exact bodyPost_ret (v := .tuple #[.string A, .string U, .bool true, .bool true]) (by simp [results, Try.results34, go_sem]) rfl ⟨unhide HOUT, unhide HB8⟩

end Go.Proofs.Ytoihlnjcgopdlaa

namespace Go.Proofs.Ytoihlnjcgopdlaa
open Go.RowKit

theorem pk_eta' (x : ByteArray × Int × Int) {a : ByteArray} {b c : Int} (h : x = (a, b, c)) : x.1 = a ∧ x.2.1 = b ∧ x.2.2 = c := by rw [h]; exact ⟨rfl, rfl, rfl⟩

theorem bytesL_zero (L : List Sg) (Z : List Int) (c : Int) (n : Nat) : (bytesL (bitsTo L Z c 0) n).map (Value.int .u8) = List.replicate n (.int .u8 0) := by
  apply List.ext_getElem
  · simp [bytesL]
  · intro i h1 h2; simp [bytesL, bitsTo, byteOf]

set_option maxRecDepth 100000 in
set_option maxHeartbeats 4000000 in
theorem rPack_any (s id : ByteArray) (vz : Value) (Z : List Int) (w : World) (hs : s.size ≤ maxLen) (hz : IntsAt w vz Z) :
    Calls Try.prog 20 #[.string s, .string id, vz] w fun e w' => e = .returned (.tuple #[.string (pk s id Z).1, .int .i64 (pk s id Z).2.1, .int .i64 (pk s id Z).2.2]) ∧ Below w.heap.size w w' := by
  obtain ⟨i0, hinf, hz0, hzz1, hzz2⟩ := info_parts Try.infoU8
  have HINF := hide hinf
  have HZ0 := hide hz0
  have HZ1 := hide hzz1
  have HZB := hide hzz2
  clear hinf hz0 hzz1 hzz2
  have HZZ := hide hz
  obtain ⟨za, zcap, rfl, hz1, hz2, hz3⟩ := hz
  have HZ2 := hide hz2
  have HZ3 := hide hz3
  clear hz2 hz3
  go_enter Try.func20, Try.ntmps20
  go_wp2_with fail
  refine (rCheck_any s _ hs).mono ?_
  rintro e w0 ⟨rfl, hb0⟩
  have HB0 := hide hb0
  clear hb0
  by_cases hzc : chkE s ≠ 0
  · have HP := hide (pk_eta' _ (pk_bad (id := id) (Z := Z) hzc))
    have hz2 : (chkE s != 0) = true := by simpa using hzc
    clear hzc
    go_wp2
    go_ret3
    exact ⟨by rw [(unhide HP).1, (unhide HP).2.1, (unhide HP).2.2]; rfl, unhide HB0⟩
  have hzc0 : chkE s = 0 := by omega
  have hz2 : (chkE s != 0) = false := by rw [hzc0]; rfl
  have hl320 : ¬ 320 < s.size := by
    intro hl
    rw [(chk_long hl).1] at hzc0; omega
  obtain ⟨M, hpd⟩ : ∃ M, pDb s 4 0 = .inr M := by
    cases hp : pDb s 4 0 with
    | inl p => rw [(chk_text hl320 hp).1] at hzc0; omega
    | inr M => exact ⟨M, rfl⟩
  have HZC := hide hzc0
  have HPD := hide hpd
  clear hzc hzc0 hpd
  go_wp2_with fail
  refine (rFind_any s id M _ (by omega) (unhide HPD)).mono ?_
  rintro e w1 ⟨hout, hb1⟩
  have HB1 := hide ((unhide HB0).trans (hb1.mono (unhide HB0).size))
  clear hb1
  rcases hout with ⟨hix, rfl⟩ | ⟨k, sv, hk, hix, rfl, hsv⟩
  · have HP := hide (pk_eta' _ (pk_id (Z := Z) (unhide HZC) (unhide HPD) hix))
    clear hix
    go_wp2
    go_ret3
    exact ⟨by rw [(unhide HP).1, (unhide HP).2.1, (unhide HP).2.2]; rfl, (unhide HB1).alloc (unhide HB1).size _⟩
  obtain ⟨m, hm⟩ : ∃ m, m = mAt M k := ⟨_, rfl⟩
  have HPK := hide (pk_msg (Z := Z) (unhide HZC) (unhide HPD) hix)
  have HG := hide (good_of (unhide HPD) hk).2
  have hmo := (good_of (unhide HPD) hk).1
  have HAF := hide (sound_fits (unhide HZC) (unhide HPD) hk)
  have HWI := hide (sound_within (unhide HZC) (unhide HPD) hk)
  rw [← hm] at hsv hmo HPK HG HAF HWI
  rw [← hm]
  have HMO := hide hmo
  have hlen8 := hmo.len
  have hsz0 := hmo.sz0
  have hsz1 := hmo.sz1
  have HSN := hide (show ((m.sz.toNat : Nat) : Int) = m.sz from Int.toNat_of_nonneg hmo.sz0)
  obtain ⟨va, vcap, rfl⟩ := ownsRow_form hsv
  have HSV := hide hsv
  clear hix hsv hmo hm hk hl320 hz2
  by_cases hln : Z.length = m.sigs.length
  · have hl2 : ((Z.length : Int) != (m.sigs.length : Int)) = false := by rw [hln]; simp
    have HLN := hide hln
    have hle1 : Z.length ≤ m.sigs.length := by omega
    have hle2 : m.sigs.length ≤ Z.length := by omega
    clear hln
    have HC : Hid (IntsAt w1 (.slice za Z.length zcap) Z) := hide ((unhide HZZ).below (unhide HB1))
    go_wp2_with fail
    refine (rChosen_any m.id m.sz m.pl _ _ m.sigs Z _ (ownsRow_below (unhide HSV) ((Below.refl _ _).alloc (Nat.le_refl _) _)) hlen8 ((unhide HC).below ((Below.refl _ _).alloc (Nat.le_refl _) _)) (unhide HLN)).mono ?_
    rintro e w2 ⟨rfl, hb2⟩
    obtain ⟨c, HCC⟩ : ∃ c, Hid (c = choiceOf m.sigs Z) := ⟨_, hide rfl⟩
    rw [← unhide HCC]
    rw [pkMsg, ← unhide HCC] at HPK
    have HP9 : Hid (∀ u : Int, firstUn m.sigs Z c = u → 0 ≤ u → pk s id Z = (noBytes, 9, u)) := hide (fun u hu h0 => by rw [unhide HPK, if_neg (by rw [unhide HLN]; simp), hu, if_pos h0])
    have HP0 : Hid (firstUn m.sigs Z c < 0 → pk s id Z = (payB (bitsTo m.sigs Z c m.sigs.length) m.sz.toNat, 0, 0)) := hide (fun h0 => by rw [unhide HPK, if_neg (by rw [unhide HLN]; simp), if_neg (by omega)])
    have HB2 : Hid (Below (w1.heap.size + 1) (w1.alloc (.cells #[.string m.id, .int .i64 m.sz, .slice va m.sigs.length vcap, .int .i64 m.pl] 45)) w2) := hide (hb2.mono (by simp))
    have hbox := fun (wx : World) (h : Below (w1.heap.size + 1) (w1.alloc (.cells #[.string m.id, .int .i64 m.sz, .slice va m.sigs.length vcap, .int .i64 m.pl] 45)) wx) => box_cell h
    have HSG := HSV
    clear hb2 HPK
    have hbw := hbox _ (unhide HB2)
    go_wp2
    clear hbw
    go_loopw [14, 15] (fun i _ wr => ∃ k : Nat, k ≤ m.sigs.length ∧ i = .int .i64 k ∧ (∀ j, j < k → unfit m.sigs Z c j = false) ∧ Below (w1.heap.size + 1) (w1.alloc (.cells #[.string m.id, .int .i64 m.sz, .slice va m.sigs.length vcap, .int .i64 m.pl] 45)) wr) (fun i _ _ => m.sigs.length - (intOf i).toNat)
    case atStart => exact ⟨0, by omega, rfl, by intro j hj; omega, unhide HB2⟩
    case round =>
      obtain ⟨k, hk, rfl, hno, hb⟩ := hrel
      have HN := hide hno
      have hbw := hbox _ hb
      clear hno
      by_cases hlt : k < m.sigs.length
      · obtain ⟨ok, r0, r1⟩ := (unhide HG).2 k hlt
        have OK := hide ok
        have hi0 : (0 : Int) ≤ (k : Int) := by omega
        have hi1 : (k : Int) < (m.sigs.length : Int) := by omega
        have hi2 : (k : Int) < (Z.length : Int) := by omega
        have HB := hide hb
        clear ok hb
        go_wp2_with fail
        refine (rActive_any m.id m.sz m.pl _ m.sigs k c _ (ownsRow_below (unhide HSV) (box_below (unhide HB))) hlen8 hlt r0 r1).mono ?_
        rintro e w3 ⟨rfl, hb3⟩
        have hb3' := box_next (unhide HB) hb3
        clear hb3 hbw
        cases hac : activeB (sgAt m.sigs k).rl c with
        | false =>
          go_wp2
          refine wp_region_noPanic ?_
          refine wp_region_held_drew (S := fun w' => Below (w1.heap.size + 1) (w1.alloc (.cells #[.string m.id, .int .i64 m.sz, .slice va m.sigs.length vcap, .int .i64 m.pl] 45)) w') (by kernel_rfl) hb3'.drew (fun hHeld => ?_)
          refine wpAnyH_take (i := 0) (v := ?_) (at_list rfl) (by kernel_rfl) (by kernel_rfl) (by kernel_rfl) (fun _ _ _ h => h) (Or.inl ⟨by rfl, ?_⟩) (by assumption) ?_
          rotate_left
          · intro w hSw; (try dsimp only at hSw); first | (go_simp; done) | (go_simp; with_reducible rfl)
          try simp only [Act.put]
          try simp only [List.setIfInBounds_toArray]
          try simp only [List.set_cons_succ]
          try simp only [List.set_cons_zero]
          refine wpAnyH_take (i := 1) (v := ?_) (at_list rfl) (by kernel_rfl) (by kernel_rfl) (by kernel_rfl) (fun _ _ _ h => h) (Or.inl ⟨by rfl, ?_⟩) (by assumption) ?_
          rotate_left
          · intro w hSw; (try dsimp only at hSw); first | (go_simp; done) | (go_simp; with_reducible rfl)
          try simp only [Act.put]
          try simp only [List.setIfInBounds_toArray]
          try simp only [List.set_cons_succ]
          try simp only [List.set_cons_zero]
          refine wpAnyH_take (i := 2) (v := undef) (at_list rfl) (by kernel_rfl) (by kernel_rfl) (by kernel_rfl) (fun _ _ _ h => h) (Or.inr ⟨by rfl, rfl⟩) (by assumption) ?_
          try simp only [Act.put]
          try simp only [List.setIfInBounds_toArray]
          try simp only [List.set_cons_succ]
          try simp only [List.set_cons_zero]
          refine wpAnyH_take (i := 3) (v := undef) (at_list rfl) (by kernel_rfl) (by kernel_rfl) (by kernel_rfl) (fun _ _ _ h => h) (Or.inr ⟨by rfl, rfl⟩) (by assumption) ?_
          try simp only [Act.put]
          try simp only [List.setIfInBounds_toArray]
          try simp only [List.set_cons_succ]
          try simp only [List.set_cons_zero]
          refine wpAnyH_take (i := 4) (v := undef) (at_list rfl) (by kernel_rfl) (by kernel_rfl) (by kernel_rfl) (fun _ _ _ h => h) (Or.inr ⟨by rfl, rfl⟩) (by assumption) ?_
          try simp only [Act.put]
          try simp only [List.setIfInBounds_toArray]
          try simp only [List.set_cons_succ]
          try simp only [List.set_cons_zero]
          refine wpAnyH_take (i := 5) (v := undef) (at_list rfl) (by kernel_rfl) (by kernel_rfl) (by kernel_rfl) (fun _ _ _ h => h) (Or.inr ⟨by rfl, rfl⟩) (by assumption) ?_
          try simp only [Act.put]
          try simp only [List.setIfInBounds_toArray]
          try simp only [List.set_cons_succ]
          try simp only [List.set_cons_zero]
          refine wpAnyH_take (i := 6) (v := undef) (at_list rfl) (by kernel_rfl) (by kernel_rfl) (by kernel_rfl) (fun _ _ _ h => h) (Or.inr ⟨by rfl, rfl⟩) (by assumption) ?_
          try simp only [Act.put]
          try simp only [List.setIfInBounds_toArray]
          try simp only [List.set_cons_succ]
          try simp only [List.set_cons_zero]
          refine wpAnyH_take (i := 7) (v := undef) (at_list rfl) (by kernel_rfl) (by kernel_rfl) (by kernel_rfl) (fun _ _ _ h => h) (Or.inr ⟨by rfl, rfl⟩) (by assumption) ?_
          try simp only [Act.put]
          try simp only [List.setIfInBounds_toArray]
          try simp only [List.set_cons_succ]
          try simp only [List.set_cons_zero]
          refine wpAnyH_take (i := 8) (v := undef) (at_list rfl) (by kernel_rfl) (by kernel_rfl) (by kernel_rfl) (fun _ _ _ h => h) (Or.inr ⟨by rfl, rfl⟩) (by assumption) ?_
          try simp only [Act.put]
          try simp only [List.setIfInBounds_toArray]
          try simp only [List.set_cons_succ]
          try simp only [List.set_cons_zero]
          refine wpAnyH_take (i := 9) (v := undef) (at_list rfl) (by kernel_rfl) (by kernel_rfl) (by kernel_rfl) (fun _ _ _ h => h) (Or.inr ⟨by rfl, rfl⟩) (by assumption) ?_
          try simp only [Act.put]
          try simp only [List.setIfInBounds_toArray]
          try simp only [List.set_cons_succ]
          try simp only [List.set_cons_zero]
          refine wpAnyH_take (i := 10) (v := undef) (at_list rfl) (by kernel_rfl) (by kernel_rfl) (by kernel_rfl) (fun _ _ _ h => h) (Or.inr ⟨by rfl, rfl⟩) (by assumption) ?_
          try simp only [Act.put]
          try simp only [List.setIfInBounds_toArray]
          try simp only [List.set_cons_succ]
          try simp only [List.set_cons_zero]
          refine wpAnyH_take (i := 11) (v := undef) (at_list rfl) (by kernel_rfl) (by kernel_rfl) (by kernel_rfl) (fun _ _ _ h => h) (Or.inr ⟨by rfl, rfl⟩) (by assumption) ?_
          try simp only [Act.put]
          try simp only [List.setIfInBounds_toArray]
          try simp only [List.set_cons_succ]
          try simp only [List.set_cons_zero]
          refine wpAnyH_take (i := 12) (v := undef) (at_list rfl) (by kernel_rfl) (by kernel_rfl) (by kernel_rfl) (fun _ _ _ h => h) (Or.inr ⟨by rfl, rfl⟩) (by assumption) ?_
          try simp only [Act.put]
          try simp only [List.setIfInBounds_toArray]
          try simp only [List.set_cons_succ]
          try simp only [List.set_cons_zero]
          refine wpAnyH_take (i := 13) (v := undef) (at_list rfl) (by kernel_rfl) (by kernel_rfl) (by kernel_rfl) (fun _ _ _ h => h) (Or.inr ⟨by rfl, rfl⟩) (by assumption) ?_
          try simp only [Act.put]
          try simp only [List.setIfInBounds_toArray]
          try simp only [List.set_cons_succ]
          try simp only [List.set_cons_zero]
          refine wpAnyH_take (i := 14) (v := undef) (at_list rfl) (by kernel_rfl) (by kernel_rfl) (by kernel_rfl) (fun _ _ _ h => h) (Or.inr ⟨by rfl, rfl⟩) (by assumption) ?_
          try simp only [Act.put]
          try simp only [List.setIfInBounds_toArray]
          try simp only [List.set_cons_succ]
          try simp only [List.set_cons_zero]
          refine wpAnyH_take (i := 15) (v := undef) (at_list rfl) (by kernel_rfl) (by kernel_rfl) (by kernel_rfl) (fun _ _ _ h => h) (Or.inr ⟨by rfl, rfl⟩) (by assumption) ?_
          try simp only [Act.put]
          try simp only [List.setIfInBounds_toArray]
          try simp only [List.set_cons_succ]
          try simp only [List.set_cons_zero]
          refine wpAnyH_take (i := 16) (v := undef) (at_list rfl) (by kernel_rfl) (by kernel_rfl) (by kernel_rfl) (fun _ _ _ h => h) (Or.inr ⟨by rfl, rfl⟩) (by assumption) ?_
          try simp only [Act.put]
          try simp only [List.setIfInBounds_toArray]
          try simp only [List.set_cons_succ]
          try simp only [List.set_cons_zero]
          refine wpAnyH_take (i := 17) (v := undef) (at_list rfl) (by kernel_rfl) (by kernel_rfl) (by kernel_rfl) (fun _ _ _ h => h) (Or.inr ⟨by rfl, rfl⟩) (by assumption) ?_
          try simp only [Act.put]
          try simp only [List.setIfInBounds_toArray]
          try simp only [List.set_cons_succ]
          try simp only [List.set_cons_zero]
          refine wpAnyH_take (i := 18) (v := undef) (at_list rfl) (by kernel_rfl) (by kernel_rfl) (by kernel_rfl) (fun _ _ _ h => h) (Or.inr ⟨by rfl, rfl⟩) (by assumption) ?_
          try simp only [Act.put]
          try simp only [List.setIfInBounds_toArray]
          try simp only [List.set_cons_succ]
          try simp only [List.set_cons_zero]
          refine wpAnyH_take (i := 19) (v := undef) (at_list rfl) (by kernel_rfl) (by kernel_rfl) (by kernel_rfl) (fun _ _ _ h => h) (Or.inr ⟨by rfl, rfl⟩) (by assumption) ?_
          try simp only [Act.put]
          try simp only [List.setIfInBounds_toArray]
          try simp only [List.set_cons_succ]
          try simp only [List.set_cons_zero]
          refine wpAnyH_take (i := 20) (v := ?_) (at_list rfl) (by kernel_rfl) (by kernel_rfl) (by kernel_rfl) (fun _ _ _ h => h) (Or.inl ⟨by rfl, ?_⟩) (by assumption) ?_
          rotate_left
          · intro w hSw; (try dsimp only at hSw); first | (go_simp; done) | (go_simp; with_reducible rfl)
          try simp only [Act.put]
          try simp only [List.setIfInBounds_toArray]
          try simp only [List.set_cons_succ]
          try simp only [List.set_cons_zero]
          refine wpAnyH_done (by kernel_rfl) ?_ _
          refine NoPanic.normal ?_
          go_wp2
          go_roundw
          case rel => exact ⟨k + 1, by omega, by go_num, fun j hj => by
              by_cases e : j = k
              · subst e; rw [unfit, hac]; rfl
              · exact unhide HN j (by omega), by assumption⟩
          case measure => simp [intOf]; omega
        | true =>
          rcases (unhide HSG).opened with ⟨hnil, _⟩ | ⟨g2, cap2, hv2, hg2, hcap2, hcm2, hc2⟩
          · rw [hnil] at hlt; simp at hlt
          cases hv2
          cases za with
          | none => have := unhide HZ2 rfl; omega
          | some xa =>
            have HC2 := hide hc2
            have HX := hide (unhide HZ3 xa rfl)
            clear hc2
            have cn := fun (wx : World) (h : Below (w1.heap.size + 1) (w1.alloc (.cells #[.string m.id, .int .i64 m.sz, .slice (some ⟨g2, 0, none⟩) m.sigs.length vcap, .int .i64 m.pl] 45)) wx) => rcells7 (k := k) (unhide HC2) hg2 (box_below h) hlt
            have zn := fun (wx : World) (h : Below (w1.heap.size + 1) (w1.alloc (.cells #[.string m.id, .int .i64 m.sz, .slice (some ⟨g2, 0, none⟩) m.sigs.length vcap, .int .i64 m.pl] 45)) wx) => ints_cell (unhide HX) ((unhide HB1).trans ((box_below h).mono (unhide HB1).size)) (show k < Z.length by omega)
            cases hfi : fitsB (sgAt m.sigs k).kd (sgAt m.sigs k).ln (zAt Z k) with
            | true =>
              go_wp2
              refine wp_region_noPanic ?_
              refine wp_region_held_drew (S := fun w' => Below (w1.heap.size + 1) (w1.alloc (.cells #[.string m.id, .int .i64 m.sz, .slice (some ⟨g2, 0, none⟩) m.sigs.length vcap, .int .i64 m.pl] 45)) w') (by kernel_rfl) hb3'.drew (fun hHeld => ?_)
              refine wpAnyH_take (i := 0) (v := ?_) (at_list rfl) (by kernel_rfl) (by kernel_rfl) (by kernel_rfl) (fun _ _ _ h => h) (Or.inl ⟨by rfl, ?_⟩) (by assumption) ?_
              rotate_left
              · intro w hSw; (try dsimp only at hSw); first | (go_simp; done) | (go_simp; with_reducible rfl)
              try simp only [Act.put]
              try simp only [List.setIfInBounds_toArray]
              try simp only [List.set_cons_succ]
              try simp only [List.set_cons_zero]
              refine wpAnyH_take (i := 1) (v := ?_) (at_list rfl) (by kernel_rfl) (by kernel_rfl) (by kernel_rfl) (fun _ _ _ h => h) (Or.inl ⟨by rfl, ?_⟩) (by assumption) ?_
              rotate_left
              · intro w hSw; (try dsimp only at hSw); first | (go_simp; done) | (go_simp; with_reducible rfl)
              try simp only [Act.put]
              try simp only [List.setIfInBounds_toArray]
              try simp only [List.set_cons_succ]
              try simp only [List.set_cons_zero]
              refine wpAnyH_take (i := 2) (v := ?_) (at_list rfl) (by kernel_rfl) (by kernel_rfl) (by kernel_rfl) (fun _ _ _ h => h) (Or.inl ⟨by rfl, ?_⟩) (by assumption) ?_
              rotate_left
              · intro w hSw; (try dsimp only at hSw); first | (go_simp; done) | (go_simp; with_reducible rfl)
              try simp only [Act.put]
              try simp only [List.setIfInBounds_toArray]
              try simp only [List.set_cons_succ]
              try simp only [List.set_cons_zero]
              refine wpAnyH_take (i := 3) (v := ?_) (at_list rfl) (by kernel_rfl) (by kernel_rfl) (by kernel_rfl) (fun _ _ _ h => h) (Or.inl ⟨by rfl, ?_⟩) (by assumption) ?_
              rotate_left
              · intro w hSw; (try dsimp only at hSw); first | (go_simp; done) | (go_simp; with_reducible rfl)
              try simp only [Act.put]
              try simp only [List.setIfInBounds_toArray]
              try simp only [List.set_cons_succ]
              try simp only [List.set_cons_zero]
              refine wpAnyH_take (i := 4) (v := ?_) (at_list rfl) (by kernel_rfl) (by kernel_rfl) (by kernel_rfl) (fun _ _ _ h => h) (Or.inl ⟨by rfl, ?_⟩) (by assumption) ?_
              rotate_left
              · intro w hSw; (try dsimp only at hSw); first | (go_simp; done) | (go_simp; with_reducible rfl)
              try simp only [Act.put]
              try simp only [List.setIfInBounds_toArray]
              try simp only [List.set_cons_succ]
              try simp only [List.set_cons_zero]
              refine wpAnyH_take (i := 5) (v := ?_) (at_list rfl) (by kernel_rfl) (by kernel_rfl) (by kernel_rfl) (fun _ _ _ h => h) (Or.inl ⟨by rfl, ?_⟩) (by assumption) ?_
              rotate_left
              · intro w hSw; (try dsimp only at hSw); first | (go_simp; done) | (go_simp; with_reducible rfl)
              try simp only [Act.put]
              try simp only [List.setIfInBounds_toArray]
              try simp only [List.set_cons_succ]
              try simp only [List.set_cons_zero]
              refine wpAnyH_take (i := 6) (v := ?_) (at_list rfl) (by kernel_rfl) (by kernel_rfl) (by kernel_rfl) (fun _ _ _ h => h) (Or.inl ⟨by rfl, ?_⟩) (by assumption) ?_
              rotate_left
              · intro w hSw; (try dsimp only at hSw); first | (go_simp; done) | (go_simp; with_reducible rfl)
              try simp only [Act.put]
              try simp only [List.setIfInBounds_toArray]
              try simp only [List.set_cons_succ]
              try simp only [List.set_cons_zero]
              refine wpAnyH_take (i := 7) (v := ?_) (at_list rfl) (by kernel_rfl) (by kernel_rfl) (by kernel_rfl) (fun _ _ _ h => h) (Or.inl ⟨by rfl, ?_⟩) (by assumption) ?_
              rotate_left
              · intro w hSw; (try dsimp only at hSw); first | (go_simp; done) | (go_simp; with_reducible rfl)
              try simp only [Act.put]
              try simp only [List.setIfInBounds_toArray]
              try simp only [List.set_cons_succ]
              try simp only [List.set_cons_zero]
              refine wpAnyH_take (i := 8) (v := ?_) (at_list rfl) (by kernel_rfl) (by kernel_rfl) (by kernel_rfl) (fun _ _ _ h => h) (Or.inl ⟨by rfl, ?_⟩) (by assumption) ?_
              rotate_left
              · intro w hSw; (try dsimp only at hSw); first | (go_simp; done) | (go_simp; with_reducible rfl)
              try simp only [Act.put]
              try simp only [List.setIfInBounds_toArray]
              try simp only [List.set_cons_succ]
              try simp only [List.set_cons_zero]
              refine wpAnyH_take (i := 9) (v := ?_) (at_list rfl) (by kernel_rfl) (by kernel_rfl) (by kernel_rfl) (fun _ _ _ h => h) (Or.inl ⟨by rfl, ?_⟩) (by assumption) ?_
              rotate_left
              · intro w hSw; (try dsimp only at hSw); first | (go_simp; done) | (go_simp; with_reducible rfl)
              try simp only [Act.put]
              try simp only [List.setIfInBounds_toArray]
              try simp only [List.set_cons_succ]
              try simp only [List.set_cons_zero]
              refine wpAnyH_take (i := 10) (v := ?_) (at_list rfl) (by kernel_rfl) (by kernel_rfl) (by kernel_rfl) (fun _ _ _ h => h) (Or.inl ⟨by rfl, ?_⟩) (by assumption) ?_
              rotate_left
              · intro w hSw; (try dsimp only at hSw); first | (go_simp; done) | (go_simp; with_reducible rfl)
              try simp only [Act.put]
              try simp only [List.setIfInBounds_toArray]
              try simp only [List.set_cons_succ]
              try simp only [List.set_cons_zero]
              refine wpAnyH_take (i := 11) (v := ?_) (at_list rfl) (by kernel_rfl) (by kernel_rfl) (by kernel_rfl) (fun _ _ _ h => h) (Or.inl ⟨by rfl, ?_⟩) (by assumption) ?_
              rotate_left
              · intro w hSw; (try dsimp only at hSw); first | (go_simp; done) | (go_simp; with_reducible rfl)
              try simp only [Act.put]
              try simp only [List.setIfInBounds_toArray]
              try simp only [List.set_cons_succ]
              try simp only [List.set_cons_zero]
              refine wpAnyH_take (i := 12) (v := ?_) (at_list rfl) (by kernel_rfl) (by kernel_rfl) (by kernel_rfl) (fun _ _ _ h => h) (Or.inl ⟨by rfl, ?_⟩) (by assumption) ?_
              rotate_left
              · intro w hSw; (try dsimp only at hSw); first | (go_simp; done) | (go_simp; with_reducible rfl)
              try simp only [Act.put]
              try simp only [List.setIfInBounds_toArray]
              try simp only [List.set_cons_succ]
              try simp only [List.set_cons_zero]
              refine wpAnyH_take (i := 13) (v := ?_) (at_list rfl) (by kernel_rfl) (by kernel_rfl) (by kernel_rfl) (fun _ _ _ h => h) (Or.inl ⟨by rfl, ?_⟩) (by assumption) ?_
              rotate_left
              · intro w hSw; (try dsimp only at hSw); first | (go_simp; done) | (go_simp; with_reducible rfl)
              try simp only [Act.put]
              try simp only [List.setIfInBounds_toArray]
              try simp only [List.set_cons_succ]
              try simp only [List.set_cons_zero]
              refine wpAnyH_take (i := 14) (v := ?_) (at_list rfl) (by kernel_rfl) (by kernel_rfl) (by kernel_rfl) (fun _ _ _ h => h) (Or.inl ⟨by rfl, ?_⟩) (by assumption) ?_
              rotate_left
              · intro w hSw; (try dsimp only at hSw); first | (go_simp; done) | (go_simp; with_reducible rfl)
              try simp only [Act.put]
              try simp only [List.setIfInBounds_toArray]
              try simp only [List.set_cons_succ]
              try simp only [List.set_cons_zero]
              refine wpAnyH_take (i := 15) (v := ?_) (at_list rfl) (by kernel_rfl) (by kernel_rfl) (by kernel_rfl) (fun _ _ _ h => h) (Or.inl ⟨by rfl, ?_⟩) (by assumption) ?_
              rotate_left
              · intro w hSw; (try dsimp only at hSw); first | (go_simp; done) | (go_simp; with_reducible rfl)
              try simp only [Act.put]
              try simp only [List.setIfInBounds_toArray]
              try simp only [List.set_cons_succ]
              try simp only [List.set_cons_zero]
              refine wpAnyH_take (i := 16) (v := ?_) (at_list rfl) (by kernel_rfl) (by kernel_rfl) (by kernel_rfl) (fun _ _ _ h => h) (Or.inl ⟨by rfl, ?_⟩) (by assumption) ?_
              rotate_left
              · intro w hSw; (try dsimp only at hSw); first | (go_simp; done) | (go_simp; with_reducible rfl)
              try simp only [Act.put]
              try simp only [List.setIfInBounds_toArray]
              try simp only [List.set_cons_succ]
              try simp only [List.set_cons_zero]
              refine wpAnyH_take (i := 17) (v := ?_) (at_list rfl) (by kernel_rfl) (by kernel_rfl) (by kernel_rfl) (fun _ _ _ h => h) (Or.inl ⟨by rfl, ?_⟩) (by assumption) ?_
              rotate_left
              · intro w hSw; (try dsimp only at hSw); first | (go_simp; done) | (go_simp; with_reducible rfl)
              try simp only [Act.put]
              try simp only [List.setIfInBounds_toArray]
              try simp only [List.set_cons_succ]
              try simp only [List.set_cons_zero]
              refine wpAnyH_ready (rs := [18]) (by kernel_rfl) (by simp) ?_
              refine AllReadyH.cons (at_list rfl) (fun K hK => ?_) AllReadyH.nil
              go_simp
              refine (rFits_any (zAt Z k) (sgAt m.sigs k).ln (sgAt m.sigs k).kd _ (unhide OK).ln0 (unhide OK).ln1 (unhide OK).kd).mono ?_; rintro e w4 ⟨rfl, rfl⟩; dsimp only
              refine hK.out _ _ (hHeld) (fun hHeld => ?_)
              clear hK K
              try simp only [Act.put]
              try simp only [List.setIfInBounds_toArray]
              try simp only [List.set_cons_succ]
              try simp only [List.set_cons_zero]
              refine wpAnyH_take (i := 19) (v := ?_) (at_list rfl) (by kernel_rfl) (by kernel_rfl) (by kernel_rfl) (fun _ _ _ h => h) (Or.inl ⟨by rfl, ?_⟩) (by assumption) ?_
              rotate_left
              · intro w hSw; (try dsimp only at hSw); first | (go_simp; done) | (go_simp; with_reducible rfl)
              try simp only [Act.put]
              try simp only [List.setIfInBounds_toArray]
              try simp only [List.set_cons_succ]
              try simp only [List.set_cons_zero]
              refine wpAnyH_take (i := 20) (v := ?_) (at_list rfl) (by kernel_rfl) (by kernel_rfl) (by kernel_rfl) (fun _ _ _ h => h) (Or.inl ⟨by rfl, ?_⟩) (by assumption) ?_
              rotate_left
              · intro w hSw; (try dsimp only at hSw); first | (go_simp; done) | (go_simp; with_reducible rfl)
              try simp only [Act.put]
              try simp only [List.setIfInBounds_toArray]
              try simp only [List.set_cons_succ]
              try simp only [List.set_cons_zero]
              refine wpAnyH_done (by kernel_rfl) ?_ _
              refine NoPanic.normal ?_
              clear cn zn
              go_wp2
              go_roundw
              case rel => exact ⟨k + 1, by omega, by go_num, fun j hj => by
                  by_cases e : j = k
                  · subst e; rw [unfit, hfi]; simp
                  · exact unhide HN j (by omega), by assumption⟩
              case measure => simp [intOf]; omega
            | false =>
              go_wp2
              refine wp_region_noPanic ?_
              refine wp_region_held_drew (S := fun w' => Below (w1.heap.size + 1) (w1.alloc (.cells #[.string m.id, .int .i64 m.sz, .slice (some ⟨g2, 0, none⟩) m.sigs.length vcap, .int .i64 m.pl] 45)) w') (by kernel_rfl) hb3'.drew (fun hHeld => ?_)
              refine wpAnyH_take (i := 0) (v := ?_) (at_list rfl) (by kernel_rfl) (by kernel_rfl) (by kernel_rfl) (fun _ _ _ h => h) (Or.inl ⟨by rfl, ?_⟩) (by assumption) ?_
              rotate_left
              · intro w hSw; (try dsimp only at hSw); first | (go_simp; done) | (go_simp; with_reducible rfl)
              try simp only [Act.put]
              try simp only [List.setIfInBounds_toArray]
              try simp only [List.set_cons_succ]
              try simp only [List.set_cons_zero]
              refine wpAnyH_take (i := 1) (v := ?_) (at_list rfl) (by kernel_rfl) (by kernel_rfl) (by kernel_rfl) (fun _ _ _ h => h) (Or.inl ⟨by rfl, ?_⟩) (by assumption) ?_
              rotate_left
              · intro w hSw; (try dsimp only at hSw); first | (go_simp; done) | (go_simp; with_reducible rfl)
              try simp only [Act.put]
              try simp only [List.setIfInBounds_toArray]
              try simp only [List.set_cons_succ]
              try simp only [List.set_cons_zero]
              refine wpAnyH_take (i := 2) (v := ?_) (at_list rfl) (by kernel_rfl) (by kernel_rfl) (by kernel_rfl) (fun _ _ _ h => h) (Or.inl ⟨by rfl, ?_⟩) (by assumption) ?_
              rotate_left
              · intro w hSw; (try dsimp only at hSw); first | (go_simp; done) | (go_simp; with_reducible rfl)
              try simp only [Act.put]
              try simp only [List.setIfInBounds_toArray]
              try simp only [List.set_cons_succ]
              try simp only [List.set_cons_zero]
              refine wpAnyH_take (i := 3) (v := ?_) (at_list rfl) (by kernel_rfl) (by kernel_rfl) (by kernel_rfl) (fun _ _ _ h => h) (Or.inl ⟨by rfl, ?_⟩) (by assumption) ?_
              rotate_left
              · intro w hSw; (try dsimp only at hSw); first | (go_simp; done) | (go_simp; with_reducible rfl)
              try simp only [Act.put]
              try simp only [List.setIfInBounds_toArray]
              try simp only [List.set_cons_succ]
              try simp only [List.set_cons_zero]
              refine wpAnyH_take (i := 4) (v := ?_) (at_list rfl) (by kernel_rfl) (by kernel_rfl) (by kernel_rfl) (fun _ _ _ h => h) (Or.inl ⟨by rfl, ?_⟩) (by assumption) ?_
              rotate_left
              · intro w hSw; (try dsimp only at hSw); first | (go_simp; done) | (go_simp; with_reducible rfl)
              try simp only [Act.put]
              try simp only [List.setIfInBounds_toArray]
              try simp only [List.set_cons_succ]
              try simp only [List.set_cons_zero]
              refine wpAnyH_take (i := 5) (v := ?_) (at_list rfl) (by kernel_rfl) (by kernel_rfl) (by kernel_rfl) (fun _ _ _ h => h) (Or.inl ⟨by rfl, ?_⟩) (by assumption) ?_
              rotate_left
              · intro w hSw; (try dsimp only at hSw); first | (go_simp; done) | (go_simp; with_reducible rfl)
              try simp only [Act.put]
              try simp only [List.setIfInBounds_toArray]
              try simp only [List.set_cons_succ]
              try simp only [List.set_cons_zero]
              refine wpAnyH_take (i := 6) (v := ?_) (at_list rfl) (by kernel_rfl) (by kernel_rfl) (by kernel_rfl) (fun _ _ _ h => h) (Or.inl ⟨by rfl, ?_⟩) (by assumption) ?_
              rotate_left
              · intro w hSw; (try dsimp only at hSw); first | (go_simp; done) | (go_simp; with_reducible rfl)
              try simp only [Act.put]
              try simp only [List.setIfInBounds_toArray]
              try simp only [List.set_cons_succ]
              try simp only [List.set_cons_zero]
              refine wpAnyH_take (i := 7) (v := ?_) (at_list rfl) (by kernel_rfl) (by kernel_rfl) (by kernel_rfl) (fun _ _ _ h => h) (Or.inl ⟨by rfl, ?_⟩) (by assumption) ?_
              rotate_left
              · intro w hSw; (try dsimp only at hSw); first | (go_simp; done) | (go_simp; with_reducible rfl)
              try simp only [Act.put]
              try simp only [List.setIfInBounds_toArray]
              try simp only [List.set_cons_succ]
              try simp only [List.set_cons_zero]
              refine wpAnyH_take (i := 8) (v := ?_) (at_list rfl) (by kernel_rfl) (by kernel_rfl) (by kernel_rfl) (fun _ _ _ h => h) (Or.inl ⟨by rfl, ?_⟩) (by assumption) ?_
              rotate_left
              · intro w hSw; (try dsimp only at hSw); first | (go_simp; done) | (go_simp; with_reducible rfl)
              try simp only [Act.put]
              try simp only [List.setIfInBounds_toArray]
              try simp only [List.set_cons_succ]
              try simp only [List.set_cons_zero]
              refine wpAnyH_take (i := 9) (v := ?_) (at_list rfl) (by kernel_rfl) (by kernel_rfl) (by kernel_rfl) (fun _ _ _ h => h) (Or.inl ⟨by rfl, ?_⟩) (by assumption) ?_
              rotate_left
              · intro w hSw; (try dsimp only at hSw); first | (go_simp; done) | (go_simp; with_reducible rfl)
              try simp only [Act.put]
              try simp only [List.setIfInBounds_toArray]
              try simp only [List.set_cons_succ]
              try simp only [List.set_cons_zero]
              refine wpAnyH_take (i := 10) (v := ?_) (at_list rfl) (by kernel_rfl) (by kernel_rfl) (by kernel_rfl) (fun _ _ _ h => h) (Or.inl ⟨by rfl, ?_⟩) (by assumption) ?_
              rotate_left
              · intro w hSw; (try dsimp only at hSw); first | (go_simp; done) | (go_simp; with_reducible rfl)
              try simp only [Act.put]
              try simp only [List.setIfInBounds_toArray]
              try simp only [List.set_cons_succ]
              try simp only [List.set_cons_zero]
              refine wpAnyH_take (i := 11) (v := ?_) (at_list rfl) (by kernel_rfl) (by kernel_rfl) (by kernel_rfl) (fun _ _ _ h => h) (Or.inl ⟨by rfl, ?_⟩) (by assumption) ?_
              rotate_left
              · intro w hSw; (try dsimp only at hSw); first | (go_simp; done) | (go_simp; with_reducible rfl)
              try simp only [Act.put]
              try simp only [List.setIfInBounds_toArray]
              try simp only [List.set_cons_succ]
              try simp only [List.set_cons_zero]
              refine wpAnyH_take (i := 12) (v := ?_) (at_list rfl) (by kernel_rfl) (by kernel_rfl) (by kernel_rfl) (fun _ _ _ h => h) (Or.inl ⟨by rfl, ?_⟩) (by assumption) ?_
              rotate_left
              · intro w hSw; (try dsimp only at hSw); first | (go_simp; done) | (go_simp; with_reducible rfl)
              try simp only [Act.put]
              try simp only [List.setIfInBounds_toArray]
              try simp only [List.set_cons_succ]
              try simp only [List.set_cons_zero]
              refine wpAnyH_take (i := 13) (v := ?_) (at_list rfl) (by kernel_rfl) (by kernel_rfl) (by kernel_rfl) (fun _ _ _ h => h) (Or.inl ⟨by rfl, ?_⟩) (by assumption) ?_
              rotate_left
              · intro w hSw; (try dsimp only at hSw); first | (go_simp; done) | (go_simp; with_reducible rfl)
              try simp only [Act.put]
              try simp only [List.setIfInBounds_toArray]
              try simp only [List.set_cons_succ]
              try simp only [List.set_cons_zero]
              refine wpAnyH_take (i := 14) (v := ?_) (at_list rfl) (by kernel_rfl) (by kernel_rfl) (by kernel_rfl) (fun _ _ _ h => h) (Or.inl ⟨by rfl, ?_⟩) (by assumption) ?_
              rotate_left
              · intro w hSw; (try dsimp only at hSw); first | (go_simp; done) | (go_simp; with_reducible rfl)
              try simp only [Act.put]
              try simp only [List.setIfInBounds_toArray]
              try simp only [List.set_cons_succ]
              try simp only [List.set_cons_zero]
              refine wpAnyH_take (i := 15) (v := ?_) (at_list rfl) (by kernel_rfl) (by kernel_rfl) (by kernel_rfl) (fun _ _ _ h => h) (Or.inl ⟨by rfl, ?_⟩) (by assumption) ?_
              rotate_left
              · intro w hSw; (try dsimp only at hSw); first | (go_simp; done) | (go_simp; with_reducible rfl)
              try simp only [Act.put]
              try simp only [List.setIfInBounds_toArray]
              try simp only [List.set_cons_succ]
              try simp only [List.set_cons_zero]
              refine wpAnyH_take (i := 16) (v := ?_) (at_list rfl) (by kernel_rfl) (by kernel_rfl) (by kernel_rfl) (fun _ _ _ h => h) (Or.inl ⟨by rfl, ?_⟩) (by assumption) ?_
              rotate_left
              · intro w hSw; (try dsimp only at hSw); first | (go_simp; done) | (go_simp; with_reducible rfl)
              try simp only [Act.put]
              try simp only [List.setIfInBounds_toArray]
              try simp only [List.set_cons_succ]
              try simp only [List.set_cons_zero]
              refine wpAnyH_take (i := 17) (v := ?_) (at_list rfl) (by kernel_rfl) (by kernel_rfl) (by kernel_rfl) (fun _ _ _ h => h) (Or.inl ⟨by rfl, ?_⟩) (by assumption) ?_
              rotate_left
              · intro w hSw; (try dsimp only at hSw); first | (go_simp; done) | (go_simp; with_reducible rfl)
              try simp only [Act.put]
              try simp only [List.setIfInBounds_toArray]
              try simp only [List.set_cons_succ]
              try simp only [List.set_cons_zero]
              refine wpAnyH_ready (rs := [18]) (by kernel_rfl) (by simp) ?_
              refine AllReadyH.cons (at_list rfl) (fun K hK => ?_) AllReadyH.nil
              go_simp
              refine (rFits_any (zAt Z k) (sgAt m.sigs k).ln (sgAt m.sigs k).kd _ (unhide OK).ln0 (unhide OK).ln1 (unhide OK).kd).mono ?_; rintro e w4 ⟨rfl, rfl⟩; dsimp only
              refine hK.out _ _ (hHeld) (fun hHeld => ?_)
              clear hK K
              try simp only [Act.put]
              try simp only [List.setIfInBounds_toArray]
              try simp only [List.set_cons_succ]
              try simp only [List.set_cons_zero]
              refine wpAnyH_take (i := 19) (v := ?_) (at_list rfl) (by kernel_rfl) (by kernel_rfl) (by kernel_rfl) (fun _ _ _ h => h) (Or.inl ⟨by rfl, ?_⟩) (by assumption) ?_
              rotate_left
              · intro w hSw; (try dsimp only at hSw); first | (go_simp; done) | (go_simp; with_reducible rfl)
              try simp only [Act.put]
              try simp only [List.setIfInBounds_toArray]
              try simp only [List.set_cons_succ]
              try simp only [List.set_cons_zero]
              refine wpAnyH_take (i := 20) (v := ?_) (at_list rfl) (by kernel_rfl) (by kernel_rfl) (by kernel_rfl) (fun _ _ _ h => h) (Or.inl ⟨by rfl, ?_⟩) (by assumption) ?_
              rotate_left
              · intro w hSw; (try dsimp only at hSw); first | (go_simp; done) | (go_simp; with_reducible rfl)
              try simp only [Act.put]
              try simp only [List.setIfInBounds_toArray]
              try simp only [List.set_cons_succ]
              try simp only [List.set_cons_zero]
              refine wpAnyH_done (by kernel_rfl) ?_ _
              refine NoPanic.normal ?_
              clear cn zn
              go_wp2
              go_ret3
              have hfu : firstUn m.sigs Z c = k := findIx_is (unhide HN) hlt (by rw [unfit, hac, hfi]; rfl)
              have hpk := pk_eta' _ (unhide HP9 _ hfu (by omega))
              exact ⟨by rw [hpk.1, hpk.2.1, hpk.2.2]; rfl, (unhide HB1).trans ((box_below (by assumption)).mono (unhide HB1).size)⟩
      · have hfu : firstUn m.sigs Z c < 0 := by rw [firstUn, findIx_none (fun j hj => unhide HN j (by omega))]; omega
        have HFU := hide hfu
        have HB := hide hb
        clear hfu hb
        go_wp2_with (at_make; refine wpList_make_full _ rfl _ _ 38 rfl (w1.heap.size + 1) 5 i0 (.int .u8 0) 1 Try.underlying38 (unhide HINF) (unhide HZ0) (unhide HZ1) .i64 .i64 m.sz m.sz m.sz.toNat rfl rfl (unhide HSN).symm (unhide HSN).symm (by rw [unhide HZB]; omega) (by unfold maxLen; omega) (by have := (unhide HB).size; simp at this; omega) ?_)
        intro w3 hown hgrow
        have HB3 := hide (Below.grown (unhide HB) hgrow (by have := (unhide HB).size; simp at this; omega) (by simp))
        have HROW : Hid (w3.ownsRow (w1.heap.size + 1) 5 1 (.slice (some ⟨wr.heap.size, 0, none⟩) m.sz.toNat m.sz.toNat) m.sz.toNat ((bytesL (bitsTo m.sigs Z c 0) m.sz.toNat).map (Value.int .u8))) := hide (by rw [toList_madeCells_one] at hown; rw [bytesL_zero]; exact hown)
        clear hown hgrow hbw
        have hbw := hbox _ (unhide HB3)
        obtain ⟨wo, rfl⟩ : ∃ wo : World, wo = wr := ⟨_, rfl⟩
        go_wp2
        clear hbw
        go_loopw [17, 18, 19, 20, 21] (fun i _ _ _ _ wr => ∃ k : Nat, k ≤ m.sigs.length ∧ i = .int .i64 k ∧ wr.ownsRow (w1.heap.size + 1) 5 1 (.slice (some ⟨wo.heap.size, 0, none⟩) m.sz.toNat m.sz.toNat) m.sz.toNat ((bytesL (bitsTo m.sigs Z c k) m.sz.toNat).map (Value.int .u8)) ∧ Below (w1.heap.size + 1) (w1.alloc (.cells #[.string m.id, .int .i64 m.sz, .slice va m.sigs.length vcap, .int .i64 m.pl] 45)) wr) (fun i _ _ _ _ _ => m.sigs.length - (intOf i).toNat)
        case atStart => exact ⟨0, by omega, rfl, unhide HROW, unhide HB3⟩
        case round =>
          obtain ⟨k, hk, rfl, hrow, hb⟩ := hrel
          have HR := hide hrow
          have HBk := hide hb
          have hbw := hbox _ hb
          clear hrow hb
          by_cases hlt : k < m.sigs.length
          · obtain ⟨ok, r0, r1⟩ := (unhide HG).2 k hlt
            have OK := hide ok
            have hi0 : (0 : Int) ≤ (k : Int) := by omega
            have hi1 : (k : Int) < (m.sigs.length : Int) := by omega
            have hi2 : (k : Int) < (Z.length : Int) := by omega
            clear ok
            go_wp2_with fail
            refine (rActive_any m.id m.sz m.pl _ m.sigs k c _ (ownsRow_below (unhide HSV) (box_below (unhide HBk))) hlen8 hlt r0 r1).mono ?_
            rintro e w4 ⟨rfl, hb4⟩
            have HB4 := hide (box_next (unhide HBk) hb4)
            have HROW4 := hide (ownsRow_bel (unhide HR) hb4)
            clear hb4 hbw
            rcases (unhide HSG).opened with ⟨hnil, _⟩ | ⟨g2, cap2, hv2, hg2, hcap2, hcm2, hc2⟩
            · rw [hnil] at hlt; simp at hlt
            cases hv2
            cases za with
            | none => have := unhide HZ2 rfl; omega
            | some xa =>
              have HC2 := hide hc2
              have HX := hide (unhide HZ3 xa rfl)
              clear hc2
              have cn := fun (wx : World) (h : Below (w1.heap.size + 1) (w1.alloc (.cells #[.string m.id, .int .i64 m.sz, .slice (some ⟨g2, 0, none⟩) m.sigs.length vcap, .int .i64 m.pl] 45)) wx) => rcells7 (k := k) (unhide HC2) hg2 (box_below h) hlt
              have cnw := cn _ (unhide HB4)
              have hbw := hbox _ (unhide HB4)
              have znw := ints_cell (unhide HX) ((unhide HB1).trans ((box_below (unhide HB4)).mono (unhide HB1).size)) (show k < Z.length by omega)
              have hpw := pow_half (sgAt m.sigs k).ln (unhide OK).ln0
              have hhp := half_pos (sgAt m.sigs k).ln
              have hhu := half_le (sgAt m.sigs k).ln (unhide OK).ln1
              have hl0 := (unhide OK).ln0
              have hl1 := (unhide OK).ln1
              obtain ⟨hh, HH⟩ : ∃ x, Hid (x = half (sgAt m.sigs k).ln) := ⟨_, hide rfl⟩
              rw [← unhide HH] at hpw hhp hhu
              cases hac : activeB (sgAt m.sigs k).rl c with
              | false =>
                have HAC := hide hac
                by_cases hv : zAt Z k < 0
                · go_wp2
                  clear cnw znw
                  refine wp_loop_rounds 1 ?_
                  rw [rounds_succ]
                  go_wp2
                  go_roundw
                  case rel => exact ⟨k + 1, by omega, by go_num, by rw [bits_stay (unhide HAC)]; exact unhide HROW4, unhide HB4⟩
                  case measure => simp [intOf]; omega
                · go_wp2
                  clear cnw znw
                  refine wp_loop_rounds 1 ?_
                  rw [rounds_succ]
                  go_wp2
                  go_roundw
                  case rel => exact ⟨k + 1, by omega, by go_num, by rw [bits_stay (unhide HAC)]; exact unhide HROW4, unhide HB4⟩
                  case measure => simp [intOf]; omega
              | true =>
                have HAC := hide hac
                have HFB := hide (fitsB_bounds (firstUn_none (unhide HFU) k hlt hac))
                have hfl : -hh ≤ zAt Z k := by rw [unhide HH]; exact (unhide HFB).1
                have hfh : zAt Z k < 2 * hh := by rw [unhide HH]; exact (unhide HFB).2
                by_cases hv : zAt Z k < 0
                · have HNV := hide (show natural (sgAt m.sigs k).ln (zAt Z k) = zAt Z k + 2 * hh by rw [natural, if_pos hv, unhide HH])
                  have hnb := fun (j : Nat) (hj : (j : Int) < (sgAt m.sigs k).ln) => natural_bit (sgAt m.sigs k).ln (zAt Z k) j (unhide OK).ln0 (unhide OK).ln1 hj (unhide HFB).1 (unhide HFB).2
                  rw [unhide HNV] at hnb
                  have HNB := hide hnb
                  clear hnb
                  go_wp2
                  clear cnw znw
                  go_loopw [20, 21] (fun i _ wr => ∃ j : Nat, (j : Int) ≤ (sgAt m.sigs k).ln ∧ i = .int .i64 j ∧ wr.ownsRow (w1.heap.size + 1) 5 1 (.slice (some ⟨wo.heap.size, 0, none⟩) m.sz.toNat m.sz.toNat) m.sz.toNat ((bytesL (bitsTo m.sigs Z c k ||| layTo (sgAt m.sigs k).st (sgAt m.sigs k).ln (sgAt m.sigs k).od (zAt Z k) j) m.sz.toNat).map (Value.int .u8)) ∧ Below (w1.heap.size + 1) (w1.alloc (.cells #[.string m.id, .int .i64 m.sz, .slice (some ⟨g2, 0, none⟩) m.sigs.length vcap, .int .i64 m.pl] 45)) wr) (fun i _ _ => ((sgAt m.sigs k).ln - intOf i).toNat)
                  case atStart => exact ⟨0, by have := (unhide OK).ln0; omega, rfl, by simpa [layTo] using unhide HROW4, unhide HB4⟩
                  case round =>
                    obtain ⟨j, hj, rfl, hrow, hb5⟩ := hrel
                    have cnw := cn _ hb5
                    have hbw := hbox _ hb5
                    have HR := hide hrow
                    have HB5 := hide hb5
                    clear hrow hb5
                    by_cases hjl : (j : Int) < (sgAt m.sigs k).ln
                    · obtain ⟨n0, n1, n2⟩ := unhide HNB j hjl
                      have hd1 : (0 : Int) ≤ (zAt Z k + 2 * hh) / 2 ^ j := Int.ediv_nonneg n0 (Int.le_of_lt (Int.pow_pos (by omega)))
                      have hd2 : (zAt Z k + 2 * hh) / 2 ^ j ≤ (zAt Z k + 2 * hh) := Int.ediv_le_self _ n0
                      have hand := and_one_i64 ((zAt Z k + 2 * hh) / 2 ^ j) hd1 (by have := half_le (sgAt m.sigs k).ln (unhide OK).ln1; omega)
                      have hbl := bitv_lt (zAt Z k) j
                      by_cases hbv : bitv (zAt Z k) j = 1
                      · have hte : (bits BinOp.and IntKind.i64 ((zAt Z k + 2 * hh) / 2 ^ j) 1 == 1) = true := by rw [hand, n2, hbv]; rfl
                        have HLAY := hide (layTo_one (st := (sgAt m.sigs k).st) (ln := (sgAt m.sigs k).ln) (od := (sgAt m.sigs k).od) hbv)
                        clear hand n0 n1 n2 hd1 hd2 hbl hbv
                        go_wp2_with fail
                        refine (rBit_any _ (sgAt m.sigs k).st (sgAt m.sigs k).ln _ _ j (sgAt m.sigs k).od (sgAt m.sigs k).kd _ (unhide OK).st0 (unhide OK).st1 (unhide OK).ln0 (unhide OK).ln1 (unhide OK).od (by omega) hjl).mono ?_
                        rintro e w6 ⟨rfl, hb6⟩
                        have hp0 := place_lo (sgAt m.sigs k).st (sgAt m.sigs k).ln (sgAt m.sigs k).od j (unhide OK).st0 (by omega) hjl
                        have hp1 := unhide HWI k hlt j hjl
                        have hpn : place (sgAt m.sigs k).st (sgAt m.sigs k).ln (sgAt m.sigs k).od j = (((place (sgAt m.sigs k).st (sgAt m.sigs k).ln (sgAt m.sigs k).od j).toNat : Nat) : Int) := (Int.toNat_of_nonneg hp0).symm
                        have HPN := hide hpn
                        have HB6 := hide (box_next (unhide HB5) hb6)
                        have HR6 := hide (ownsRow_bel (unhide HR) hb6)
                        clear hb6 cnw hbw hpn hte
                        go_wp2_with fail
                        rw [unhide HPN]
                        refine (rPut_any (w1.heap.size + 1) _ _ m.sz.toNat _ (place (sgAt m.sigs k).st (sgAt m.sigs k).ln (sgAt m.sigs k).od j).toNat _ (unhide HR6) (by omega) (by omega)).mono ?_
                        rintro e w7 ⟨rfl, hrow7, hgr7⟩
                        have HB7 := hide (Below.grown (unhide HB6) hgr7 (by have := (unhide HB6).size; simp at this; omega) (fun q hq => by cases hq; exact ((unhide HR6).lt _ rfl).1))
                        have HR7 := hide hrow7
                        clear hrow7 hgr7
                        go_wp2
                        go_roundw
                        case rel =>
                          refine ⟨j + 1, by omega, by go_num, ?_, unhide HB7⟩
                          rw [unhide HLAY, ← Nat.or_assoc]
                          exact unhide HR7
                        case measure => simp [intOf]; omega
                      · have hte : (bits BinOp.and IntKind.i64 ((zAt Z k + 2 * hh) / 2 ^ j) 1 == 1) = false := by rw [hand, n2, beq_eq_false_iff_ne]; omega
                        have HLAY := hide (layTo_zero (st := (sgAt m.sigs k).st) (ln := (sgAt m.sigs k).ln) (od := (sgAt m.sigs k).od) (show bitv (zAt Z k) j = 0 by omega))
                        clear hand n0 n1 n2 hd1 hd2 hbl hbv
                        go_wp2
                        go_roundw
                        case rel =>
                          refine ⟨j + 1, by omega, by go_num, ?_, unhide HB5⟩
                          rw [unhide HLAY]
                          exact unhide HR
                        case measure => simp [intOf]; omega
                    · have hjn : (sgAt m.sigs k).ln.toNat = j := by omega
                      have HJ := hide hjn
                      clear hjn
                      go_wp2
                      go_roundw
                      case rel =>
                        refine ⟨k + 1, by omega, by go_num, ?_, unhide HB5⟩
                        have h7 := unhide HR
                        have e7 : bitsTo m.sigs Z c (k + 1) = bitsTo m.sigs Z c k ||| layTo (sgAt m.sigs k).st (sgAt m.sigs k).ln (sgAt m.sigs k).od (zAt Z k) j := by
                          rw [bitsTo, if_pos (unhide HAC), unhide HJ]; rfl
                        rw [e7]
                        exact h7
                      case measure => simp [intOf]; omega
                · have HNV := hide (show natural (sgAt m.sigs k).ln (zAt Z k) = zAt Z k by rw [natural, if_neg hv])
                  have hnb := fun (j : Nat) (hj : (j : Int) < (sgAt m.sigs k).ln) => natural_bit (sgAt m.sigs k).ln (zAt Z k) j (unhide OK).ln0 (unhide OK).ln1 hj (unhide HFB).1 (unhide HFB).2
                  rw [unhide HNV] at hnb
                  have HNB := hide hnb
                  clear hnb
                  go_wp2
                  clear cnw znw
                  go_loopw [20, 21] (fun i _ wr => ∃ j : Nat, (j : Int) ≤ (sgAt m.sigs k).ln ∧ i = .int .i64 j ∧ wr.ownsRow (w1.heap.size + 1) 5 1 (.slice (some ⟨wo.heap.size, 0, none⟩) m.sz.toNat m.sz.toNat) m.sz.toNat ((bytesL (bitsTo m.sigs Z c k ||| layTo (sgAt m.sigs k).st (sgAt m.sigs k).ln (sgAt m.sigs k).od (zAt Z k) j) m.sz.toNat).map (Value.int .u8)) ∧ Below (w1.heap.size + 1) (w1.alloc (.cells #[.string m.id, .int .i64 m.sz, .slice (some ⟨g2, 0, none⟩) m.sigs.length vcap, .int .i64 m.pl] 45)) wr) (fun i _ _ => ((sgAt m.sigs k).ln - intOf i).toNat)
                  case atStart => exact ⟨0, by have := (unhide OK).ln0; omega, rfl, by simpa [layTo] using unhide HROW4, unhide HB4⟩
                  case round =>
                    obtain ⟨j, hj, rfl, hrow, hb5⟩ := hrel
                    have cnw := cn _ hb5
                    have hbw := hbox _ hb5
                    have HR := hide hrow
                    have HB5 := hide hb5
                    clear hrow hb5
                    by_cases hjl : (j : Int) < (sgAt m.sigs k).ln
                    · obtain ⟨n0, n1, n2⟩ := unhide HNB j hjl
                      have hd1 : (0 : Int) ≤ (zAt Z k) / 2 ^ j := Int.ediv_nonneg n0 (Int.le_of_lt (Int.pow_pos (by omega)))
                      have hd2 : (zAt Z k) / 2 ^ j ≤ (zAt Z k) := Int.ediv_le_self _ n0
                      have hand := and_one_i64 ((zAt Z k) / 2 ^ j) hd1 (by have := half_le (sgAt m.sigs k).ln (unhide OK).ln1; omega)
                      have hbl := bitv_lt (zAt Z k) j
                      by_cases hbv : bitv (zAt Z k) j = 1
                      · have hte : (bits BinOp.and IntKind.i64 ((zAt Z k) / 2 ^ j) 1 == 1) = true := by rw [hand, n2, hbv]; rfl
                        have HLAY := hide (layTo_one (st := (sgAt m.sigs k).st) (ln := (sgAt m.sigs k).ln) (od := (sgAt m.sigs k).od) hbv)
                        clear hand n0 n1 n2 hd1 hd2 hbl hbv
                        go_wp2_with fail
                        refine (rBit_any _ (sgAt m.sigs k).st (sgAt m.sigs k).ln _ _ j (sgAt m.sigs k).od (sgAt m.sigs k).kd _ (unhide OK).st0 (unhide OK).st1 (unhide OK).ln0 (unhide OK).ln1 (unhide OK).od (by omega) hjl).mono ?_
                        rintro e w6 ⟨rfl, hb6⟩
                        have hp0 := place_lo (sgAt m.sigs k).st (sgAt m.sigs k).ln (sgAt m.sigs k).od j (unhide OK).st0 (by omega) hjl
                        have hp1 := unhide HWI k hlt j hjl
                        have hpn : place (sgAt m.sigs k).st (sgAt m.sigs k).ln (sgAt m.sigs k).od j = (((place (sgAt m.sigs k).st (sgAt m.sigs k).ln (sgAt m.sigs k).od j).toNat : Nat) : Int) := (Int.toNat_of_nonneg hp0).symm
                        have HPN := hide hpn
                        have HB6 := hide (box_next (unhide HB5) hb6)
                        have HR6 := hide (ownsRow_bel (unhide HR) hb6)
                        clear hb6 cnw hbw hpn hte
                        go_wp2_with fail
                        rw [unhide HPN]
                        refine (rPut_any (w1.heap.size + 1) _ _ m.sz.toNat _ (place (sgAt m.sigs k).st (sgAt m.sigs k).ln (sgAt m.sigs k).od j).toNat _ (unhide HR6) (by omega) (by omega)).mono ?_
                        rintro e w7 ⟨rfl, hrow7, hgr7⟩
                        have HB7 := hide (Below.grown (unhide HB6) hgr7 (by have := (unhide HB6).size; simp at this; omega) (fun q hq => by cases hq; exact ((unhide HR6).lt _ rfl).1))
                        have HR7 := hide hrow7
                        clear hrow7 hgr7
                        go_wp2
                        go_roundw
                        case rel =>
                          refine ⟨j + 1, by omega, by go_num, ?_, unhide HB7⟩
                          rw [unhide HLAY, ← Nat.or_assoc]
                          exact unhide HR7
                        case measure => simp [intOf]; omega
                      · have hte : (bits BinOp.and IntKind.i64 ((zAt Z k) / 2 ^ j) 1 == 1) = false := by rw [hand, n2, beq_eq_false_iff_ne]; omega
                        have HLAY := hide (layTo_zero (st := (sgAt m.sigs k).st) (ln := (sgAt m.sigs k).ln) (od := (sgAt m.sigs k).od) (show bitv (zAt Z k) j = 0 by omega))
                        clear hand n0 n1 n2 hd1 hd2 hbl hbv
                        go_wp2
                        go_roundw
                        case rel =>
                          refine ⟨j + 1, by omega, by go_num, ?_, unhide HB5⟩
                          rw [unhide HLAY]
                          exact unhide HR
                        case measure => simp [intOf]; omega
                    · have hjn : (sgAt m.sigs k).ln.toNat = j := by omega
                      have HJ := hide hjn
                      clear hjn
                      go_wp2
                      go_roundw
                      case rel =>
                        refine ⟨k + 1, by omega, by go_num, ?_, unhide HB5⟩
                        have h7 := unhide HR
                        have e7 : bitsTo m.sigs Z c (k + 1) = bitsTo m.sigs Z c k ||| layTo (sgAt m.sigs k).st (sgAt m.sigs k).ln (sgAt m.sigs k).od (zAt Z k) j := by
                          rw [bitsTo, if_pos (unhide HAC), unhide HJ]; rfl
                        rw [e7]
                        exact h7
                      case measure => simp [intOf]; omega
          · have hkn : k = m.sigs.length := by omega
            have hconv := conv_row (unhide HR)
            have HK := hide hkn
            have hpk := pk_eta' _ (unhide HP0 (unhide HFU))
            have HPK := hide hpk
            clear hkn hpk
            go_wp2
            go_ret3
            exact ⟨by rw [(unhide HPK).1, (unhide HPK).2.1, (unhide HPK).2.2, payB, ← unhide HK]; rfl, (unhide HB1).trans ((box_below (unhide HBk)).mono (unhide HB1).size)⟩
  · have HP := hide (pk_eta' _ (show pk s id Z = (noBytes, 8, 0) by rw [unhide HPK, pkMsg, if_pos hln]))
    have hl2 : ((Z.length : Int) != (m.sigs.length : Int)) = true := by rw [bne_iff_ne]; omega
    clear hln
    go_wp2
    go_ret3
    exact ⟨by rw [(unhide HP).1, (unhide HP).2.1, (unhide HP).2.2]; rfl, (unhide HB1).alloc (unhide HB1).size _⟩

end Go.Proofs.Ytoihlnjcgopdlaa

namespace Go.Proofs.Ytoihlnjcgopdlaa
open Go.RowKit

/-- P11: the first code fills in what is packed. -/
theorem fill_pack {s id : ByteArray} {M : List Mg} {k : Nat} (h : Cmp s id M k) {Z : List Int} (hl : Z.length = (mAt M k).sigs.length) :
    fillL (packTo (mAt M k).sigs (mAt M k).sigs.length) Z (mAt M k).sz.toNat = pk s id Z := by
  rw [pk_msg h.chk h.db h.ix, pkMsg, if_neg (by omega), fillL]
  obtain ⟨h1, h2⟩ := run_pack (sound_of h.chk h.db h.lt) (good_of h.db h.lt).2 (st0 Z) rfl rfl
  by_cases hu : 0 ≤ firstUn (mAt M k).sigs Z (choiceOf (mAt M k).sigs Z)
  · have := h1 hu
    rw [if_pos hu, this, if_pos (by simp)]
  · have := h2 (by omega)
    rw [if_neg hu, this, if_neg (by simp)]

set_option maxRecDepth 100000 in
set_option maxHeartbeats 4000000 in
theorem Compiles_any (s id : ByteArray) (v : Value) (Z : List Int) (w : World) (hs : s.size ≤ maxLen) (hid : id.size ≤ maxLen) (hz : IntsAt w v Z) (_hr : Z.length * 8 ≤ 140737488351232) :
    Calls Try.prog 12 #[.string s, .string id, v] w fun e w' => e = .returned (.bool true) ∧ Below w.heap.size w w' := by
  have HZ := hide hz
  obtain ⟨za, zcap, rfl, hz1, hz2, hz3⟩ := hz
  clear hz2 hz3
  go_enter Try.func12, Try.ntmps12
  go_wp2_with fail
  refine (compiled_any s id _ hs hid).mono ?_
  rintro e w1 ⟨hout, hb1⟩
  have HB1 := hide hb1
  clear hb1
  rcases hout with ⟨_, rfl⟩ | ⟨M, k, hc, rfl⟩
  · go_wp2
    go_ret
    exact ⟨rfl, unhide HB1⟩
  have HC := hide hc
  obtain ⟨m, hm⟩ : ∃ m, m = mAt M k := ⟨_, rfl⟩
  have hmo := (good_of hc.db hc.lt).1
  have HG := hide (good_of hc.db hc.lt).2
  have HPF := hide (pack_fine (sound_of hc.chk hc.db hc.lt) (good_of hc.db hc.lt).2 (sound_fits hc.chk hc.db hc.lt) (mAt M k).sigs.length (Nat.le_refl _))
  have HFP := hide (fill_pack hc (Z := Z))
  rw [← hm] at hmo HG HPF HFP
  rw [← hm]
  have HME := hide hm
  have hl8 := hmo.len
  have hsz0 := hmo.sz0
  have hsz1 := hmo.sz1
  obtain ⟨q, hq⟩ : ∃ q : Nat, m.sz = q := ⟨m.sz.toNat, by omega⟩
  have hq8 : q ≤ 8 := by omega
  rw [hq, Int.toNat_natCast] at HFP
  have HQ := hide hq
  have HPL := hide (show (packTo m.sigs m.sigs.length).length ≤ 96 by have := (unhide HPF).2; omega)
  clear hc hm hmo hsz0 hsz1 hq
  generalize codeB (unpackTo m.sigs m.sigs.length) = ub
  go_wp2_with fail
  refine (rFind_any s id M _ (by have := chk_320 (unhide HC).chk; omega) (unhide HC).db).mono ?_
  rintro e w2 ⟨hout, hb2⟩
  have HB2 := hide ((unhide HB1).trans (hb2.mono (unhide HB1).size))
  clear hb2
  rcases hout with ⟨hix, rfl⟩ | ⟨k', sv, hk, hix, rfl, hsv⟩
  · have := (unhide HC).ix; omega
  obtain rfl : k' = k := by have := (unhide HC).ix; omega
  rw [← unhide HME] at hsv
  rw [← unhide HME, unhide HQ]
  obtain ⟨va, vcap, rfl⟩ := ownsRow_form hsv
  clear hsv hix hk
  have HBB : Hid (Below (w2.heap.size + 1) (w2.alloc (.cells #[.string m.id, .int .i64 q, .slice va m.sigs.length vcap, .int .i64 m.pl] 45)) (w2.alloc (.cells #[.string m.id, .int .i64 q, .slice va m.sigs.length vcap, .int .i64 m.pl] 45))) := hide (Below.refl _ _)
  by_cases hln : Z.length = m.sigs.length
  · have hne : ((Z.length : Int) != (m.sigs.length : Int)) = false := by rw [hln]; simp
    have HEQ := hide (unhide HFP hln)
    have hz8 : Z.length ≤ 8 := by omega
    have hle1 : Z.length ≤ m.sigs.length := by omega
    have hle2 : m.sigs.length ≤ Z.length := by omega
    clear hln
    go_wp2_with fail
    refine (rFill_any (packTo m.sigs m.sigs.length) _ Z q _ (unhide HPF).1 (unhide HPL) ((unhide HZ).below ((unhide HB2).trans ((box_below (unhide HBB)).mono (unhide HB2).size))) hz8 hq8).mono ?_
    rintro e w3 ⟨rfl, hb3⟩
    have HB3 := hide ((unhide HB2).trans ((box_below (box_next (unhide HBB) hb3)).mono (unhide HB2).size))
    clear hb3
    rw [unhide HEQ]
    go_wp2_with fail
    refine (rPack_any s id _ Z _ hs ((unhide HZ).below (unhide HB3))).mono ?_
    rintro e w4 ⟨rfl, hb4⟩
    have HB4 := hide ((unhide HB3).trans (hb4.mono (unhide HB3).size))
    clear hb4
    generalize (pk s id Z).1 = x1
    generalize (pk s id Z).2.1 = x2
    generalize (pk s id Z).2.2 = x3
    go_wp2
    go_ret
    exact ⟨rfl, unhide HB4⟩
  · have hne : ((Z.length : Int) != (m.sigs.length : Int)) = true := by rw [bne_iff_ne]; omega
    clear hln
    go_wp2
    go_ret
    exact ⟨rfl, (unhide HB2).trans ((box_below (unhide HBB)).mono (unhide HB2).size)⟩

end Go.Proofs.Ytoihlnjcgopdlaa

namespace Go.Proofs.Ytoihlnjcgopdlaa
open Go.RowKit

/-- P11: the second code reads what is unpacked. -/
theorem read_unpack {s id : ByteArray} {M : List Mg} {k : Nat} (h : Cmp s id M k) {p : ByteArray} :
    (readL (unpackTo (mAt M k).sigs (mAt M k).sigs.length) p).2.2 = (0, 0) ∧
    (readL (unpackTo (mAt M k).sigs (mAt M k).sigs.length) p).1 = valsL (mAt M k).sigs (payTo p p.size) (choiceN (mAt M k).sigs (payTo p p.size)) (mAt M k).sigs.length ++ List.replicate (8 - (mAt M k).sigs.length) 0 ∧
    (readL (unpackTo (mAt M k).sigs (mAt M k).sigs.length) p).2.1 = strOfNums (signsL (mAt M k).sigs (choiceN (mAt M k).sigs (payTo p p.size)) (mAt M k).sigs.length ++ List.replicate (8 - (mAt M k).sigs.length) 45) := by
  have hg := (good_of h.db h.lt).2
  have hl := hg.1
  have hrun := run_unpack (sound_of h.chk h.db h.lt) hg (payTo p p.size)
  have e : readL (unpackTo (mAt M k).sigs (mAt M k).sigs.length) p = (regsM (stU (mAt M k).sigs (payTo p p.size) (mAt M k).sigs.length) 8, strOfNums (signsM (stU (mAt M k).sigs (payTo p p.size) (mAt M k).sigs.length) 8), 0, 0) := by
    rw [readL]
    have : runL (unpackTo (mAt M k).sigs (mAt M k).sigs.length) (stN (payTo p p.size)) = (stU (mAt M k).sigs (payTo p p.size) (mAt M k).sigs.length, 0, 0) := hrun
    rw [this, if_neg (by simp)]
  rw [e]
  generalize (mAt M k).sigs = L at *
  generalize payTo p p.size = N at *
  refine ⟨rfl, ?_, ?_⟩
  · simp only
    apply List.ext_getElem
    · simp [regsM, valsL]; omega
    · intro i h1 h2
      simp [regsM] at h1
      simp only [regsM, List.getElem_map, List.getElem_range]
      rw [stU_reg]
      by_cases hi : i < L.length
      · rw [List.getElem_append_left (by simp [valsL]; exact hi), if_pos hi]
        simp [valsL]
      · rw [List.getElem_append_right (by simp [valsL]; omega), if_neg hi]
        simp
  · simp only
    congr 1
    apply List.ext_getElem
    · simp [signsM, signsL]; omega
    · intro i h1 h2
      simp [signsM] at h1
      simp only [signsM, List.getElem_map, List.getElem_range, signM]
      rw [stU_mark]
      by_cases hi : i < L.length
      · rw [List.getElem_append_left (by simp [signsL]; exact hi)]
        simp [signsL, signN, hi]
      · rw [List.getElem_append_right (by simp [signsL]; omega)]
        simp [hi]

end Go.Proofs.Ytoihlnjcgopdlaa

namespace Go.Proofs.Ytoihlnjcgopdlaa
open Go.RowKit

theorem code_back {L : List Ins} (hf : Fine L) (hl : L.length ≤ 96) : vE (codeB L) = 0 ∧ codeL (codeB L) = L := by
  have hsz := codeB_size L
  have hc : cntI (codeB L) = L.length := by unfold cntI; omega
  have hi : ∀ i, i < L.length → insAt (codeB L) i = inAt L i := fun i hi => by
    have h := inAt_some L i hi
    exact insAt_code h (hf i _ h).1
  constructor
  · have hb : ∀ i, i < cntI (codeB L) → badB (codeB L) i = false := by
      intro i h
      rw [hc] at h
      rw [badB, hc, hi i h, (hf i _ (inAt_some L i h)).2]
      have : ¬ (codeB L).size < 5 * i + 5 := by omega
      simp [this]
    rw [vE, if_neg (by omega), vIx, firstIx_none hb, if_neg (by omega)]
  · rw [codeL, hc]
    apply List.ext_getElem
    · rw [codeTo_len]
    · intro i h1 h2
      simp only [codeTo, List.getElem_map, List.getElem_range]
      rw [hi i h2, inAt_eq L i h2]
theorem fillOut_code {L : List Ins} (hf : Fine L) (hl : L.length ≤ 96) {Z : List Int} (hz : Z.length ≤ 8) {n : Nat} (hn : n ≤ 8) : fillOut (codeB L) Z n = fillL L Z n := by
  obtain ⟨h1, h2⟩ := code_back hf hl
  rw [fillOut, if_neg (by omega), if_neg (by omega), if_neg (by omega), h2, fillL, Int.toNat_natCast]
theorem readOut_code {L : List Ins} (hf : Fine L) (hl : L.length ≤ 96) {p : ByteArray} (hp : p.size ≤ 8) : readOut (codeB L) p = readL L p := by
  obtain ⟨h1, h2⟩ := code_back hf hl
  rw [readOut, if_neg (by omega), if_neg (by omega), h2, readL]

theorem nums_cut (a b : List Int) : (strOfNums (a ++ b)).extract 0 a.length = strOfNums a := by
  apply ByteArray.ext
  simp [strOfNums]
theorem ints_cut {w : World} {a : Option Addr} {n cap : Nat} {V W : List Int} (h : IntsAt w (.slice a n cap) (V ++ W)) : IntsAt w (.slice a V.length cap) V := by
  obtain ⟨a', cap', hv, h1, h2, h3⟩ := h
  cases hv
  rw [List.length_append] at h1 h2 h3
  refine ⟨_, _, rfl, by omega, fun e => by have := h2 e; omega, fun x hx => ?_⟩
  obtain ⟨h4, h5⟩ := h3 x hx
  refine ⟨fun _ => h4 (by omega), fun i hi => ?_⟩
  rw [h5 i (by omega)]
  simp [zAt, List.getElem?_append_left hi, hi]

set_option maxRecDepth 100000 in
set_option maxHeartbeats 1000000 in
theorem rFindNo_any (s id : ByteArray) (q : Nat) (w : World) (hs : s.size ≤ 140737488351232) (hpd : pDb s 4 0 = .inl q) :
    Calls Try.prog 24 #[.string s, .string id] w fun e w' => e = .returned (.tuple #[.agg #[.string { data := #[] }, .int .i64 0, .slice none 0 0, .int .i64 0], .bool false]) ∧ Below w.heap.size w w' := by
  have HPD := hide hpd
  clear hpd
  go_enter Try.func24, Try.ntmps24
  go_wp2_with fail
  refine (rRead_any s _ hs).mono ?_
  rintro e w1 ⟨hout, hb1⟩
  rw [RDbOut, unhide HPD] at hout
  dsimp only at hout
  subst hout
  have HB1 := hide (show Below (w.heap.size + 1) (w.alloc (.cells #[.string { data := #[] }, .int .i64 0, .slice none 0 0, .int .i64 0] 45)) w1 from hb1.mono (by simp))
  have hx := fun j => box_cell (unhide HB1) j
  have hlt1 : w.heap.size < w1.heap.size := by have := (unhide HB1).size; simp at this; omega
  have hf := fun j => (unhide HB1).frozen (p := ⟨w.heap.size, j, none⟩) (by simp)
  clear hb1
  go_wp2
  refine wp_loop_rounds 1 ?_
  rw [rounds_succ]
  go_wp2
  exact bodyPost_ret (v := .tuple #[.agg #[.string { data := #[] }, .int .i64 0, .slice none 0 0, .int .i64 0], .bool false]) (by simp [results, Try.results24, go_sem, hx]) rfl ⟨rfl, set4_below (box_below (unhide HB1)) _ _ _ _⟩

set_option maxRecDepth 100000 in
set_option maxHeartbeats 4000000 in
theorem Runs_any (s id : ByteArray) (v : Value) (Z : List Int) (p : ByteArray) (w : World) (hs : s.size ≤ 140737488351232) (hid : id.size ≤ maxLen) (hz : IntsAt w v Z) (hr : Z.length * 8 ≤ 140737488351232) :
    Calls Try.prog 14 #[.string s, .string id, v, .string p] w fun e w' => e = .returned (.bool true) ∧ Below w.heap.size w w' := by
  have hsm : s.size ≤ maxLen := by unfold maxLen; omega
  have HZ := hide hz
  obtain ⟨za, zcap, rfl, hz1, hz2, hz3⟩ := hz
  clear hz2 hz3
  go_enter Try.func14, Try.ntmps14
  go_wp2_with fail
  refine (Compile_any s id _ hsm hid).mono ?_
  rintro e w1 ⟨rfl, hb1⟩
  have HB1 := hide hb1
  clear hb1
  go_wp2_with fail
  refine (rCheck_any s _ hsm).mono ?_
  rintro e w2 ⟨rfl, hb2⟩
  have HB2 := hide ((unhide HB1).trans (hb2.mono (unhide HB1).size))
  clear hb2
  by_cases hzc : chkE s ≠ 0
  · have hC := cm_eta _ (cmp_bad (id := id) hzc)
    rw [hC.1, hC.2.1, hC.2.2.1, hC.2.2.2]
    have hz2 : (chkE s != 0) = true := by simpa using hzc
    clear hC hzc
    cases hpd : pDb s 4 0 with
    | inl j =>
      go_wp2_with fail
      refine (rFindNo_any s id j _ hs hpd).mono ?_
      rintro e w3 ⟨rfl, hb3⟩
      have HB3 := hide ((unhide HB2).trans (hb3.mono (unhide HB2).size))
      clear hb3 hpd
      go_wp2_with (go_at_call 17; refine (num_any _ _).mono ?_; rintro e w' ⟨rfl, rfl⟩)
      go_ret
      exact ⟨rfl, (unhide HB3).alloc (unhide HB3).size _⟩
    | inr M =>
      go_wp2_with fail
      refine (rFind_any s id M _ hs hpd).mono ?_
      rintro e w3 ⟨hout, hb3⟩
      have HB3 := hide ((unhide HB2).trans (hb3.mono (unhide HB2).size))
      clear hb3 hpd
      rcases hout with ⟨_, rfl⟩ | ⟨k, sv, _, _, rfl, hsv⟩
      · go_wp2_with (go_at_call 17; refine (num_any _ _).mono ?_; rintro e w' ⟨rfl, rfl⟩)
        go_ret
        exact ⟨rfl, (unhide HB3).alloc (unhide HB3).size _⟩
      · obtain ⟨va, vcap, rfl⟩ := ownsRow_form hsv
        clear hsv
        go_wp2_with (go_at_call 17; refine (num_any _ _).mono ?_; rintro e w' ⟨rfl, rfl⟩)
        go_ret
        exact ⟨rfl, (unhide HB3).alloc (unhide HB3).size _⟩
  have hz0 : chkE s = 0 := by omega
  obtain ⟨M, hpd⟩ := chk_some hz0
  have HZC := hide hz0
  have HPD := hide hpd
  rw [hz0]
  clear hzc hz0 hpd
  go_wp2_with fail
  refine (rFind_any s id M _ hs (unhide HPD)).mono ?_
  rintro e w3 ⟨hout, hb3⟩
  have HB3 := hide ((unhide HB2).trans (hb3.mono (unhide HB2).size))
  clear hb3
  rcases hout with ⟨hix, rfl⟩ | ⟨k, sv, hk, hix, rfl, hsv⟩
  · have hC := cm_eta _ (cmp_id (unhide HZC) (unhide HPD) hix)
    rw [hC.1, hC.2.1, hC.2.2.1, hC.2.2.2]
    clear hC hix
    go_wp2_with (go_at_call 17; refine (num_any _ _).mono ?_; rintro e w' ⟨rfl, rfl⟩)
    go_ret
    exact ⟨rfl, (unhide HB3).alloc (unhide HB3).size _⟩
  have hc : Cmp s id M k := ⟨unhide HZC, unhide HPD, hk, hix⟩
  have HC := hide hc
  have hC := cm_eta _ (cmp_msg (unhide HZC) (unhide HPD) hix)
  rw [hC.1, hC.2.1, hC.2.2.1, hC.2.2.2]
  obtain ⟨m, hm⟩ : ∃ m, m = mAt M k := ⟨_, rfl⟩
  have hmo := (good_of (unhide HPD) hk).1
  have HPF := hide (pack_fine (sound_of hc.chk hc.db hc.lt) (good_of hc.db hc.lt).2 (sound_fits hc.chk hc.db hc.lt) (mAt M k).sigs.length (Nat.le_refl _))
  have HUF := hide (unpack_fine (sound_of hc.chk hc.db hc.lt) (good_of hc.db hc.lt).2 (sound_fits hc.chk hc.db hc.lt) (mAt M k).sigs.length (Nat.le_refl _))
  have HFP := hide (fill_pack hc (Z := Z))
  have HRU := hide (read_unpack hc (p := p))
  have HUM := hide (show p.size ≤ 8 → (p.size : Int) = (mAt M k).sz → up s id p = (valsL (mAt M k).sigs (payTo p p.size) (choiceN (mAt M k).sigs (payTo p p.size)) (mAt M k).sigs.length, strOfNums (signsL (mAt M k).sigs (choiceN (mAt M k).sigs (payTo p p.size)) (mAt M k).sigs.length), 0, 0) from fun h8 h => by
    rw [up_msg (by omega) hc.chk hc.db hc.ix, upMsg, if_neg (by omega)])
  rw [← hm] at hsv hmo HPF HUF HFP HRU HUM
  rw [← hm]
  have hl8 := hmo.len
  have hsz0 := hmo.sz0
  have hsz1 := hmo.sz1
  obtain ⟨va, vcap, rfl⟩ := ownsRow_form hsv
  obtain ⟨q, hq⟩ : ∃ q : Nat, m.sz = q := ⟨m.sz.toNat, by omega⟩
  have hq8 : q ≤ 8 := by omega
  rw [hq, Int.toNat_natCast] at HFP
  rw [hq] at HUM
  rw [hq]
  have HPL := hide (show (packTo m.sigs m.sigs.length).length ≤ 96 by have := (unhide HPF).2; omega)
  have HUL := hide (show (unpackTo m.sigs m.sigs.length).length ≤ 96 by have := (unhide HUF).2; omega)
  have HBB : Hid (Below (w3.heap.size + 1) (w3.alloc (.cells #[.string m.id, .int .i64 q, .slice va m.sigs.length vcap, .int .i64 m.pl] 45)) (w3.alloc (.cells #[.string m.id, .int .i64 q, .slice va m.sigs.length vcap, .int .i64 m.pl] 45))) := hide (Below.refl _ _)
  clear hC hc hsv hmo hix hk hm hsz0 hsz1 hq
  go_wp2_with (go_at_call 17; refine (num_any _ _).mono ?_; rintro e w' ⟨rfl, rfl⟩)
  refine (copied_any _ Z _ ((unhide HZ).below ((unhide HB3).trans ((box_below (unhide HBB)).mono (unhide HB3).size))) hr).mono ?_
  rintro e w4 ⟨u4, rfl, hu4, hb4⟩
  have HB4 := hide (box_next (unhide HBB) hb4)
  have HU4 := hide hu4
  obtain ⟨ua, ucap, rfl, _, _, _⟩ := hu4
  clear hb4
  go_wp2_with fail
  refine (copied_any _ Z _ ((unhide HZ).below ((unhide HB3).trans ((box_below (unhide HB4)).mono (unhide HB3).size))) hr).mono ?_
  rintro e w5 ⟨u5, rfl, hu5, hb5⟩
  have HB5 := hide (box_next (unhide HB4) hb5)
  have HU5 := hide hu5
  have HU45 := hide ((unhide HU4).below hb5)
  obtain ⟨xa, xcap, rfl, _, _, _⟩ := hu5
  have hbx5 := box_cell (unhide HB5)
  clear hb5 HU4
  by_cases hln : Z.length = m.sigs.length
  · have hee : ((Z.length : Int) == (m.sigs.length : Int)) = true := by rw [hln]; simp
    have hz8 : Z.length ≤ 8 := by omega
    have HEQ := hide (show fillOut (codeB (packTo m.sigs m.sigs.length)) Z q = pk s id Z by rw [fillOut_code (unhide HPF).1 (unhide HPL) hz8 hq8, unhide HFP hln])
    have hle1 : Z.length ≤ m.sigs.length := by omega
    have hle2 : m.sigs.length ≤ Z.length := by omega
    clear hln
    go_wp2_with fail
    refine (Fill_any (codeB (packTo m.sigs m.sigs.length)) _ Z q _ (unhide HU45) hr).mono ?_
    rintro e w6 ⟨rfl, hb6⟩
    rw [unhide HEQ]
    have HB6 := hide (box_next (unhide HB5) hb6)
    have HU56 := hide ((unhide HU5).below hb6)
    clear hb6 hbx5
    go_wp2_with fail
    refine (Pack_any s id _ Z _ hsm hid (unhide HU56)).mono ?_
    rintro e w7 ⟨rfl, hb7⟩
    have HB7 := hide (box_next (unhide HB6) hb7)
    have hbx7 := box_cell (unhide HB7)
    clear hb7
    generalize (pk s id Z).1 = x1
    generalize (pk s id Z).2.1 = x2
    generalize (pk s id Z).2.2 = x3
    by_cases hps : (p.size : Int) = (q : Int)
    · have hne : ((p.size : Int) != (q : Int)) = false := by rw [hps]; simp
      have hp8 : p.size ≤ 8 := by omega
      have hup := up_eta (unhide HUM hp8 hps)
      have hro := readOut_code (unhide HUF).1 (unhide HUL) hp8
      have hru := unhide HRU
      rw [← hro] at hru
      clear hro hps
      obtain ⟨V, HV⟩ : ∃ V, Hid (V = valsL m.sigs (payTo p p.size) (choiceN m.sigs (payTo p p.size)) m.sigs.length) := ⟨_, hide rfl⟩
      obtain ⟨T, HT⟩ : ∃ T, Hid (T = signsL m.sigs (choiceN m.sigs (payTo p p.size)) m.sigs.length) := ⟨_, hide rfl⟩
      have HVL := hide (show V.length = m.sigs.length by rw [unhide HV, valsL_len])
      have HTL := hide (show T.length = m.sigs.length by rw [unhide HT]; simp [signsL])
      rw [← unhide HV, ← unhide HT] at hru
      rw [← unhide HV, ← unhide HT] at hup
      have HUPE := hide hup
      have HRUE := hide hru
      clear hup hru
      go_wp2_with (go_at_call 17; refine (num_any _ _).mono ?_; rintro e w' ⟨rfl, rfl⟩)
      refine (Read_any (codeB (unpackTo m.sigs m.sigs.length)) p _).mono ?_
      rintro e w8 ⟨⟨u8, rfl, hu8⟩, hb8⟩
      have HB8 := hide (box_next (unhide HB7) hb8)
      rw [(unhide HRUE).2.1] at hu8
      have e0 : (readOut (codeB (unpackTo m.sigs m.sigs.length)) p).2.2.1 = 0 := by rw [(unhide HRUE).1]
      have e1 : (readOut (codeB (unpackTo m.sigs m.sigs.length)) p).2.2.2 = 0 := by rw [(unhide HRUE).1]
      rw [(unhide HRUE).2.2, e0, e1]
      have HU8 := hide hu8
      obtain ⟨ya, ycap, rfl, hy1, hy2, hy3⟩ := hu8
      have HY1 := hide hy1
      clear hb8 hbx7 e0 e1 hy1 hy2 hy3
      obtain ⟨WL, HWL⟩ : ∃ x, Hid (x = (V ++ List.replicate (8 - m.sigs.length) (0 : Int)).length) := ⟨_, hide rfl⟩
      obtain ⟨VL, HVN⟩ : ∃ x, Hid (x = V.length) := ⟨_, hide rfl⟩
      obtain ⟨ts, HTS⟩ : ∃ x, Hid (x = strOfNums (T ++ List.replicate (8 - m.sigs.length) (45 : Int))) := ⟨_, hide rfl⟩
      obtain ⟨us, HUS⟩ : ∃ x, Hid (x = strOfNums T) := ⟨_, hide rfl⟩
      rw [← unhide HWL, ← unhide HTS]
      go_wp2_with fail
      refine (Unpack_any s id p _ hsm hid).mono ?_
      rintro e w9 ⟨⟨u9, rfl, hu9⟩, hb9⟩
      have HB9 := hide (box_next (unhide HB8) hb9)
      rw [(unhide HUPE).1] at hu9
      rw [(unhide HUPE).2.1, (unhide HUPE).2.2.1, (unhide HUPE).2.2.2]
      have HU89 := hide (ints_cut ((unhide HU8).below hb9))
      have HU9 := hide hu9
      obtain ⟨ta, tcap, rfl, ht1, ht2, ht3⟩ := hu9
      clear hb9 ht1 ht2 ht3 HU8
      rw [← unhide HVN, ← unhide HUS]
      rw [← unhide HVN] at HU89 HU9
      have hv1 : (VL : Int) ≤ (WL : Int) := by rw [unhide HVN, unhide HWL, List.length_append]; omega
      have hv2 : (WL : Int) ≤ (ycap : Int) := by have := unhide HY1; rw [unhide HWL]; omega
      have hv3 : (VL : Int) ≤ 8 := by rw [unhide HVN, unhide HVL]; omega
      have hs1 : (us.size : Int) ≤ (ts.size : Int) := by rw [unhide HTS, unhide HUS, strOfNums_size, strOfNums_size, List.length_append]; omega
      have HEX := hide (show ts.extract 0 us.size = us by rw [unhide HTS, unhide HUS, strOfNums_size, nums_cut])
      have hbe : ((ts.extract 0 us.size).toList == us.toList) = true := by rw [unhide HEX]; simp
      go_wp2_with (go_at_call 17; refine (num_any _ _).mono ?_; rintro e w' ⟨rfl, rfl⟩)
      refine (Same_any _ _ V _ (unhide HU89) (unhide HU9) (by rw [← unhide HVN]; omega)).mono ?_
      rintro e wa ⟨rfl, hba⟩
      have HBA := hide ((unhide HB3).trans ((box_below (box_next (unhide HB9) hba)).mono (unhide HB3).size))
      clear hba
      go_wp2
      go_ret
      exact ⟨rfl, unhide HBA⟩
    · have hne : ((p.size : Int) != (q : Int)) = true := by rw [bne_iff_ne]; exact hps
      clear hps
      go_wp2_with (go_at_call 17; refine (num_any _ _).mono ?_; rintro e w' ⟨rfl, rfl⟩)
      go_ret
      exact ⟨rfl, (unhide HB3).trans ((box_below (unhide HB7)).mono (unhide HB3).size)⟩
  · have hee : ((Z.length : Int) == (m.sigs.length : Int)) = false := by rw [beq_eq_false_iff_ne]; omega
    clear hln
    have HB7 := HB5
    have hbx7 := hbx5
    by_cases hps : (p.size : Int) = (q : Int)
    · have hne : ((p.size : Int) != (q : Int)) = false := by rw [hps]; simp
      have hp8 : p.size ≤ 8 := by omega
      have hup := up_eta (unhide HUM hp8 hps)
      have hro := readOut_code (unhide HUF).1 (unhide HUL) hp8
      have hru := unhide HRU
      rw [← hro] at hru
      clear hro hps
      obtain ⟨V, HV⟩ : ∃ V, Hid (V = valsL m.sigs (payTo p p.size) (choiceN m.sigs (payTo p p.size)) m.sigs.length) := ⟨_, hide rfl⟩
      obtain ⟨T, HT⟩ : ∃ T, Hid (T = signsL m.sigs (choiceN m.sigs (payTo p p.size)) m.sigs.length) := ⟨_, hide rfl⟩
      have HVL := hide (show V.length = m.sigs.length by rw [unhide HV, valsL_len])
      have HTL := hide (show T.length = m.sigs.length by rw [unhide HT]; simp [signsL])
      rw [← unhide HV, ← unhide HT] at hru
      rw [← unhide HV, ← unhide HT] at hup
      have HUPE := hide hup
      have HRUE := hide hru
      clear hup hru
      go_wp2_with (go_at_call 17; refine (num_any _ _).mono ?_; rintro e w' ⟨rfl, rfl⟩)
      refine (Read_any (codeB (unpackTo m.sigs m.sigs.length)) p _).mono ?_
      rintro e w8 ⟨⟨u8, rfl, hu8⟩, hb8⟩
      have HB8 := hide (box_next (unhide HB7) hb8)
      rw [(unhide HRUE).2.1] at hu8
      have e0 : (readOut (codeB (unpackTo m.sigs m.sigs.length)) p).2.2.1 = 0 := by rw [(unhide HRUE).1]
      have e1 : (readOut (codeB (unpackTo m.sigs m.sigs.length)) p).2.2.2 = 0 := by rw [(unhide HRUE).1]
      rw [(unhide HRUE).2.2, e0, e1]
      have HU8 := hide hu8
      obtain ⟨ya, ycap, rfl, hy1, hy2, hy3⟩ := hu8
      have HY1 := hide hy1
      clear hb8 hbx7 e0 e1 hy1 hy2 hy3
      obtain ⟨WL, HWL⟩ : ∃ x, Hid (x = (V ++ List.replicate (8 - m.sigs.length) (0 : Int)).length) := ⟨_, hide rfl⟩
      obtain ⟨VL, HVN⟩ : ∃ x, Hid (x = V.length) := ⟨_, hide rfl⟩
      obtain ⟨ts, HTS⟩ : ∃ x, Hid (x = strOfNums (T ++ List.replicate (8 - m.sigs.length) (45 : Int))) := ⟨_, hide rfl⟩
      obtain ⟨us, HUS⟩ : ∃ x, Hid (x = strOfNums T) := ⟨_, hide rfl⟩
      rw [← unhide HWL, ← unhide HTS]
      go_wp2_with fail
      refine (Unpack_any s id p _ hsm hid).mono ?_
      rintro e w9 ⟨⟨u9, rfl, hu9⟩, hb9⟩
      have HB9 := hide (box_next (unhide HB8) hb9)
      rw [(unhide HUPE).1] at hu9
      rw [(unhide HUPE).2.1, (unhide HUPE).2.2.1, (unhide HUPE).2.2.2]
      have HU89 := hide (ints_cut ((unhide HU8).below hb9))
      have HU9 := hide hu9
      obtain ⟨ta, tcap, rfl, ht1, ht2, ht3⟩ := hu9
      clear hb9 ht1 ht2 ht3 HU8
      rw [← unhide HVN, ← unhide HUS]
      rw [← unhide HVN] at HU89 HU9
      have hv1 : (VL : Int) ≤ (WL : Int) := by rw [unhide HVN, unhide HWL, List.length_append]; omega
      have hv2 : (WL : Int) ≤ (ycap : Int) := by have := unhide HY1; rw [unhide HWL]; omega
      have hv3 : (VL : Int) ≤ 8 := by rw [unhide HVN, unhide HVL]; omega
      have hs1 : (us.size : Int) ≤ (ts.size : Int) := by rw [unhide HTS, unhide HUS, strOfNums_size, strOfNums_size, List.length_append]; omega
      have HEX := hide (show ts.extract 0 us.size = us by rw [unhide HTS, unhide HUS, strOfNums_size, nums_cut])
      have hbe : ((ts.extract 0 us.size).toList == us.toList) = true := by rw [unhide HEX]; simp
      go_wp2_with (go_at_call 17; refine (num_any _ _).mono ?_; rintro e w' ⟨rfl, rfl⟩)
      refine (Same_any _ _ V _ (unhide HU89) (unhide HU9) (by rw [← unhide HVN]; omega)).mono ?_
      rintro e wa ⟨rfl, hba⟩
      have HBA := hide ((unhide HB3).trans ((box_below (box_next (unhide HB9) hba)).mono (unhide HB3).size))
      clear hba
      go_wp2
      go_ret
      exact ⟨rfl, unhide HBA⟩
    · have hne : ((p.size : Int) != (q : Int)) = true := by rw [bne_iff_ne]; exact hps
      clear hps
      go_wp2_with (go_at_call 17; refine (num_any _ _).mono ?_; rintro e w' ⟨rfl, rfl⟩)
      go_ret
      exact ⟨rfl, (unhide HB3).trans ((box_below (unhide HB7)).mono (unhide HB3).size)⟩

end Go.Proofs.Ytoihlnjcgopdlaa

namespace Go.Proofs.Ytoihlnjcgopdlaa
open Go.RowKit

set_option maxRecDepth 100000 in
set_option maxHeartbeats 2000000 in
theorem rUnpackOk_any (s id p : ByteArray) (M : List Mg) (k : Nat) (w : World) (hc : Cmp s id M k) (hp : (p.size : Int) = (mAt M k).sz) :
    Calls Try.prog 22 #[.string s, .string id, .string p] w fun e w' => (∃ u, e = .returned (.tuple #[u, .string (strOfNums (signsL (mAt M k).sigs (choiceN (mAt M k).sigs (payTo p p.size)) (mAt M k).sigs.length)), .int .i64 0, .int .i64 0]) ∧
      w'.ownsRow w.heap.size 3 1 u (mAt M k).sigs.length ((valsL (mAt M k).sigs (payTo p p.size) (choiceN (mAt M k).sigs (payTo p p.size)) (mAt M k).sigs.length).map (Value.int .i64))) ∧ Below w.heap.size w w' := by
  have h320 := chk_320 hc.chk
  have hmo := (good_of hc.db hc.lt).1
  have hsz1 := hmo.sz1
  have hsi : ¬ (320 : Int) < (s.size : Int) := by omega
  have h8i : ¬ (8 : Int) < (p.size : Int) := by omega
  have h8 : p.size ≤ 8 := by omega
  have HC := hide hc
  have HP := hide hp
  clear hmo hsz1 hp hc
  go_enter Try.func22, Try.ntmps22
  go_wp2_with fail
  refine (rCheck_any s _ (by unfold maxLen; omega)).mono ?_
  rintro e w0 ⟨rfl, hb0⟩
  have HB0 := hide hb0
  clear hb0
  rw [(unhide HC).chk]
  go_wp2_with fail
  refine (rFind_any s id M _ (by omega) (unhide HC).db).mono ?_
  rintro e w1 ⟨hout, hb1⟩
  have HB1 := hide ((unhide HB0).trans (hb1.mono (unhide HB0).size))
  clear hb1
  rcases hout with ⟨hix, rfl⟩ | ⟨k', sv, hk, hix, rfl, hsv⟩
  · have := (unhide HC).ix; omega
  obtain rfl : k' = k := by have := (unhide HC).ix; omega
  obtain ⟨m, hm⟩ : ∃ m, m = mAt M k' := ⟨_, rfl⟩
  have HG := hide (good_of (unhide HC).db (unhide HC).lt).2
  have HWI := hide (sound_within (unhide HC).chk (unhide HC).db (unhide HC).lt)
  rw [← hm] at hsv HG HWI HP
  rw [← hm]
  obtain ⟨va, vcap, rfl⟩ := ownsRow_form hsv
  have HSV := hide hsv
  have HME := hide hm
  clear hix hsv hm hk
  have HBB : Hid (Below (w1.heap.size + 1) (w1.alloc (.cells #[.string m.id, .int .i64 m.sz, .slice va m.sigs.length vcap, .int .i64 m.pl] 45)) (w1.alloc (.cells #[.string m.id, .int .i64 m.sz, .slice va m.sigs.length vcap, .int .i64 m.pl] 45))) := hide (Below.refl _ _)
  have hl2 : ((p.size : Int) != m.sz) = false := by rw [unhide HP]; simp
  have HW2 : Hid (Within m.sigs p.size) := hide (by rw [unhide HP]; exact unhide HWI)
  go_wp2_with fail
  refine (rUnpackedO_any m.id p m.sz m.pl _ m.sigs _ (ownsRow_below (unhide HSV) (box_below (unhide HBB))) (unhide HG) h8 (unhide HW2)).mono ?_
  rintro e w3 ⟨u, rfl, hu, hb3⟩
  have HB3 := hide (box_next (unhide HBB) hb3)
  have HUU := hide (ownsRow_to hu (show w.heap.size ≤ _ by have := (unhide HB1).size; simp; omega))
  obtain ⟨ua, ucap, rfl⟩ := ownsRow_form hu
  clear hb3 hu
  go_wp2
  exact bodyPost_ret (v := .tuple #[.slice ua m.sigs.length ucap, .string (strOfNums (signsL m.sigs (choiceN m.sigs (payTo p p.size)) m.sigs.length)), .int .i64 0, .int .i64 0]) (by simp [results, Try.results22, go_sem]) rfl ⟨⟨_, by rw [← unhide HME], by rw [← unhide HME]; exact unhide HUU⟩, (unhide HB1).trans ((box_below (unhide HB3)).mono (unhide HB1).size)⟩

/-- The length of a slice value. -/
def sliceLen : Value → Nat
  | .slice _ n _ => n
  | _ => 0
theorem repl_app45 (n : Nat) : List.replicate (n + 1) (45 : Int) = List.replicate n 45 ++ [45] := List.replicate_succ'

set_option maxRecDepth 100000 in
set_option maxHeartbeats 4000000 in
theorem Decompiles_any (s id p : ByteArray) (w : World) (hs : s.size ≤ maxLen) (hid : id.size ≤ maxLen) :
    Calls Try.prog 13 #[.string s, .string id, .string p] w fun e w' => e = .returned (.bool true) ∧ Below w.heap.size w w' := by
  obtain ⟨j0, jinf, jz0, jz1, jz2⟩ := info_parts Try.infoInt
  have JINF := hide jinf
  have JZ0 := hide jz0
  have JZ1 := hide jz1
  have JZ2 := hide jz2
  clear jinf jz0 jz1 jz2
  go_enter Try.func13, Try.ntmps13
  go_wp2_with fail
  refine (compiled_any s id _ hs hid).mono ?_
  rintro e w1 ⟨hout, hb1⟩
  have HB1 := hide hb1
  clear hb1
  rcases hout with ⟨_, rfl⟩ | ⟨M, k, hc, rfl⟩
  · go_wp2
    go_ret
    exact ⟨rfl, unhide HB1⟩
  have HC := hide hc
  obtain ⟨m, hm⟩ : ∃ m, m = mAt M k := ⟨_, rfl⟩
  have hmo := (good_of hc.db hc.lt).1
  have HUF := hide (unpack_fine (sound_of hc.chk hc.db hc.lt) (good_of hc.db hc.lt).2 (sound_fits hc.chk hc.db hc.lt) (mAt M k).sigs.length (Nat.le_refl _))
  have HRU := hide (read_unpack hc (p := p))
  rw [← hm] at hmo HUF HRU
  rw [← hm]
  have HME := hide hm
  have hl8 := hmo.len
  have hsz0 := hmo.sz0
  have hsz1 := hmo.sz1
  have HUL := hide (show (unpackTo m.sigs m.sigs.length).length ≤ 96 by have := (unhide HUF).2; omega)
  clear hc hm hmo
  generalize codeB (packTo m.sigs m.sigs.length) = pa
  go_wp2_with fail
  refine (rFind_any s id M _ (by have := chk_320 (unhide HC).chk; omega) (unhide HC).db).mono ?_
  rintro e w2 ⟨hout, hb2⟩
  have HB2 := hide ((unhide HB1).trans (hb2.mono (unhide HB1).size))
  clear hb2
  rcases hout with ⟨hix, rfl⟩ | ⟨k', sv, hk, hix, rfl, hsv⟩
  · have := (unhide HC).ix; omega
  obtain rfl : k' = k := by have := (unhide HC).ix; omega
  rw [← unhide HME] at hsv
  rw [← unhide HME]
  obtain ⟨va, vcap, rfl⟩ := ownsRow_form hsv
  clear hsv hix hk
  have HBB : Hid (Below (w2.heap.size + 1) (w2.alloc (.cells #[.string m.id, .int .i64 m.sz, .slice va m.sigs.length vcap, .int .i64 m.pl] 45)) (w2.alloc (.cells #[.string m.id, .int .i64 m.sz, .slice va m.sigs.length vcap, .int .i64 m.pl] 45))) := hide (Below.refl _ _)
  by_cases hln : (p.size : Int) = m.sz
  · have hne : ((p.size : Int) != m.sz) = false := by rw [hln]; simp
    have hp8 : p.size ≤ 8 := by omega
    have HLN := hide hln
    clear hln
    go_wp2_with fail
    refine (rMRead_any (unpackTo m.sigs m.sigs.length) p _ (unhide HUF).1 (unhide HUL) hp8).mono ?_
    rintro e w3 ⟨⟨u, rfl, hu⟩, hb3⟩
    have e0 : (readL (unpackTo m.sigs m.sigs.length) p).2.2.1 = 0 := by rw [(unhide HRU).1]
    have e1 : (readL (unpackTo m.sigs m.sigs.length) p).2.2.2 = 0 := by rw [(unhide HRU).1]
    rw [(unhide HRU).2.1] at hu
    rw [(unhide HRU).2.2, e0, e1]
    have HB3 := hide ((unhide HB2).trans ((box_below (box_next (unhide HBB) hb3)).mono (unhide HB2).size))
    have HU := hide hu
    obtain ⟨ua, ucap, rfl, hu1, hu2, hu3⟩ := hu
    clear hb3 hu1 hu2 hu3 e0 e1
    go_wp2_with fail
    refine (rUnpackOk_any s id p M k' _ (unhide HC) (by rw [← unhide HME]; exact unhide HLN)).mono ?_
    rintro e w4 ⟨⟨x, rfl, hx⟩, hb4⟩
    rw [← unhide HME] at hx
    rw [← unhide HME]
    have HB4 := hide hb4
    have HX := hide hx
    obtain ⟨xa, xcap, rfl⟩ := ownsRow_form hx
    clear hb4 hx
    obtain ⟨V, HV⟩ : ∃ V, Hid (V = valsL m.sigs (payTo p p.size) (choiceN m.sigs (payTo p p.size)) m.sigs.length) := ⟨_, hide rfl⟩
    obtain ⟨T, HT⟩ : ∃ T, Hid (T = signsL m.sigs (choiceN m.sigs (payTo p p.size)) m.sigs.length) := ⟨_, hide rfl⟩
    have HVL := hide (show V.length = m.sigs.length by rw [unhide HV, valsL_len])
    have HTL := hide (show T.length = m.sigs.length by rw [unhide HT]; simp [signsL])
    rw [← unhide HV] at HU HX
    rw [← unhide HV, ← unhide HT]
    obtain ⟨n, HN⟩ : ∃ n, Hid (n = m.sigs.length) := ⟨_, hide rfl⟩
    rw [← unhide HN] at HVL HTL HX HU hl8
    rw [← unhide HN]
    obtain ⟨UL, HULN⟩ : ∃ x, Hid (x = V.length + (8 - n)) := ⟨_, hide rfl⟩
    rw [← unhide HULN]
    have HU' : Hid (IntsAt w3 (.slice ua UL ucap) (V ++ List.replicate (8 - n) 0)) := hide (by rw [unhide HULN]; have := unhide HU; rw [List.length_append, List.length_replicate] at this; exact this)
    obtain ⟨ST, HST⟩ : ∃ x, Hid (x = strOfNums (T ++ List.replicate (8 - n) (45 : Int))) := ⟨_, hide rfl⟩
    rw [← unhide HST]
    go_wp2
    go_loopw [17, 18] (fun wv tv wr => ∃ j : Nat, n + j ≤ 8 ∧ wr.ownsRow w3.heap.size 3 1 wv (n + j) ((V ++ List.replicate j 0).map (Value.int .i64)) ∧ tv = .string (strOfNums (T ++ List.replicate j 45)) ∧ Below w3.heap.size w3 wr) (fun wv _ _ => 8 - sliceLen wv)
    case atStart => exact ⟨0, by omega, by simpa using unhide HX, by simp, unhide HB4⟩
    case round =>
      obtain ⟨j, hj, hrow, rfl, hb⟩ := hrel
      obtain ⟨ra, rcap, rfl⟩ := ownsRow_form hrow
      have HR := hide hrow
      have HB := hide hb
      clear hrow hb
      by_cases hlt : n + j < 8
      · have hlt' : ((n + j : Nat) : Int) < 8 := by omega
        have HSP := hide (show strOfNums (T ++ List.replicate (j + 1) 45) = strOfNums (T ++ List.replicate j 45) ++ ⟨#[45]⟩ by rw [repl_app45, ← List.append_assoc, str_push]; rfl)
        have hss := strOfNums_size (T ++ List.replicate j 45)
        rw [List.length_append, unhide HTL, List.length_replicate] at hss
        generalize strOfNums (T ++ List.replicate j 45) = ts at *
        go_wp2_with (at_builtin; refine wpList_append_own _ rfl _ _ 29 rfl w3.heap.size 3 j0 _ 1 8 Try.underlying29 (unhide JINF) (unhide JZ0) (unhide JZ1) (unhide JZ2) rfl (by decide) _ _ _ rfl ((unhide HR).alloc _) ⟨wr.heap.size, 0, none⟩ 1 1 [.int .i64 0] rfl rfl ?c1 ?c2 ?c3 ?c4 ?c5 ?_)
        case c1 => exact new_cells (blk_new _ _)
        case c2 => simp [Value.oneCell']
        case c3 => unfold maxLen; omega
        case c4 => omega
        case c5 => have := (unhide HB).size; simp; omega
        intro v5 w5 hown5 hgrow _
        obtain ⟨a5, cap5, rfl⟩ := ownsRow_form hown5
        have HB5 := hide (Below.grown ((unhide HB).alloc (unhide HB).size _) hgrow (by have := (unhide HB).size; simp; omega) (fun k hk => ((unhide HR).lt k hk).1))
        have HR5 := hide hown5
        clear hown5 hgrow
        go_wp2
        go_roundw
        case rel =>
          refine ⟨j + 1, by omega, ?_, by rw [unhide HSP], unhide HB5⟩
          have h5 := unhide HR5
          have e5 : (V ++ List.replicate (j + 1) (0 : Int)).map (Value.int .i64) = V.map (Value.int .i64) ++ (List.replicate j (Value.int .i64 0) ++ [Value.int .i64 0]) := by simp [List.replicate_succ']
          rw [e5, ← Nat.add_assoc]
          exact h5
        case measure => simp [sliceLen]; omega
      · have hjn : j = 8 - n := by omega
        have hlt' : ¬ ((n + j : Nat) : Int) < 8 := by omega
        have HJ := hide hjn
        have hVV : (V ++ List.replicate j (0 : Int)).length = n + j := by rw [List.length_append, unhide HVL, List.length_replicate]
        have h5 := IntsAt_row (Z := V ++ List.replicate j 0) (by rw [hVV]; exact unhide HR)
        rw [show List.replicate j (0 : Int) = List.replicate (8 - n) 0 from by rw [hjn]] at h5
        have HI := hide h5
        have HTS := hide (show strOfNums (T ++ List.replicate j 45) = ST by rw [unhide HST, hjn])
        rw [unhide HTS]
        have hv8 : (V ++ List.replicate (8 - n) (0 : Int)).length * 8 ≤ 140737488351232 := by rw [List.length_append, unhide HVL, List.length_replicate]; omega
        have hll : (List.replicate (8 - n) (0 : Int)).length = 8 - n := by simp
        clear hVV hjn h5
        go_wp2_with fail
        refine (Same_any _ _ (V ++ List.replicate (8 - n) 0) _ ((unhide HU').below (unhide HB)) (unhide HI) hv8).mono ?_
        rintro e w6 ⟨rfl, hb6⟩
        have HB6 := hide ((unhide HB3).trans (((unhide HB).trans (hb6.mono (unhide HB).size)).mono (unhide HB3).size))
        clear hb6
        go_wp2
        go_ret
        exact ⟨rfl, unhide HB6⟩
  · have hne : ((p.size : Int) != m.sz) = true := by rw [bne_iff_ne]; exact hln
    clear hln
    go_wp2
    go_ret
    exact ⟨rfl, (unhide HB2).trans ((box_below (unhide HBB)).mono (unhide HB2).size)⟩

end Go.Proofs.Ytoihlnjcgopdlaa

namespace Go.Proofs.Ytoihlnjcgopdlaa
open Go.RowKit

set_option maxHeartbeats 400000 in
theorem Check_any (s : ByteArray) (w : World) (hs : s.size ≤ maxLen) :
    Calls Try.prog 15 #[.string s] w fun e w' => e = .returned (.tuple #[.int .i64 (chkE s), .int .i64 (chkP s)]) ∧ Below w.heap.size w w' := by
  go_enter Try.func15, Try.ntmps15
  go_wp2_with fail
  refine (soundMessages_any s _ hs).mono ?_
  rintro e w1 ⟨hout, hb1⟩
  rcases hout with ⟨hz, v, P, rfl, hpd, hm, hl, hok⟩ | ⟨hz, rfl⟩
  · have HZ := hide hz
    clear hz hpd hm hok
    go_wp2
    go_ret2
    exact ⟨by rw [unhide HZ, chk_ok (unhide HZ)]; rfl, hb1⟩
  · clear hz
    go_wp2
    go_ret2
    exact ⟨rfl, hb1⟩

end Go.Proofs.Ytoihlnjcgopdlaa

namespace Go.Proofs.Ytoihlnjcgopdlaa
open Go.RowKit

set_option maxHeartbeats 400000 in
theorem Checks_any (s : ByteArray) (w : World) (hs : s.size ≤ maxLen) :
    Calls Try.prog 3 #[.string s] w fun e w' => e = .returned (.bool true) ∧ Below w.heap.size w w' := by
  go_enter Try.func3, Try.ntmps3
  go_wp2_with fail
  refine (Check_any s _ hs).mono ?_
  rintro e w1 ⟨rfl, hb1⟩
  go_wp2_with fail
  refine (rCheck_any s _ hs).mono ?_
  rintro e w2 ⟨rfl, hb2⟩
  have HB := hide (hb1.trans (hb2.mono hb1.size))
  clear hb1 hb2
  go_wp2_with go_in
  go_ret
  exact ⟨rfl, unhide HB⟩

end Go.Proofs.Ytoihlnjcgopdlaa

namespace Go.Proofs.Ytoihlnjcgopdlaa
open Go.RowKit

set_option maxRecDepth 100000 in
set_option maxHeartbeats 1000000 in
theorem Packs_any (s id : ByteArray) (v : Value) (Z : List Int) (w : World) (hs : s.size ≤ maxLen) (hid : id.size ≤ maxLen) (hz : IntsAt w v Z) (hr : Z.length * 8 ≤ 140737488351232) :
    Calls Try.prog 4 #[.string s, .string id, v] w fun e w' => e = .returned (.bool true) ∧ Below w.heap.size w w' := by
  have HZ := hide hz
  obtain ⟨za, zcap, rfl, hz1, hz2, hz3⟩ := hz
  clear hz2 hz3
  go_enter Try.func4, Try.ntmps4
  go_wp2_with fail
  refine (copied_any _ Z _ (unhide HZ) hr).mono ?_
  rintro e w1 ⟨u, rfl, hu, hb1⟩
  have HU := hide hu
  have HB1 := hide hb1
  obtain ⟨ua, ucap, rfl, hu1, hu2, hu3⟩ := hu
  clear hu2 hu3 hb1
  go_wp2_with fail
  refine (Pack_any s id _ Z _ hs hid (unhide HU)).mono ?_
  rintro e w2 ⟨rfl, hb2⟩
  have HB2 := hide ((unhide HB1).trans (hb2.mono (unhide HB1).size))
  clear hb2
  go_wp2_with fail
  refine (rPack_any s id _ Z _ hs ((unhide HZ).below (unhide HB2))).mono ?_
  rintro e w3 ⟨rfl, hb3⟩
  have HB3 := hide ((unhide HB2).trans (hb3.mono (unhide HB2).size))
  clear hb3
  generalize (pk s id Z).1 = x1
  generalize (pk s id Z).2.1 = x2
  generalize (pk s id Z).2.2 = x3
  go_wp2_with go_in
  go_ret
  exact ⟨rfl, unhide HB3⟩

end Go.Proofs.Ytoihlnjcgopdlaa

namespace Go.Proofs.Ytoihlnjcgopdlaa
open Go.RowKit

theorem up_len (s id p : ByteArray) : (up s id p).1.length ≤ 8 := by
  rw [up]
  split
  · simp
  · split
    · simp
    · split
      · simp
      · rename_i M hpd
        split
        · simp
        · rename_i hix
          rcases findIx_cases (fun k => decide ((mAt M k).id = id)) M.length with ⟨hn, _⟩ | ⟨k, hk, hkk, _⟩
          · exact absurd (show msgIx M id < 0 by unfold msgIx; omega) hix
          · have e : msgIx M id = k := hkk
            rw [e, Int.toNat_natCast, upMsg]
            split
            · simp
            · simp only [valsL_len]; exact (good_of hpd hk).1.len

theorem bytes_made (n : Nat) {w : World} {B : Nat} {v : Value} (h : w.ownsRow B 5 1 v n (List.replicate n (.int .u8 0))) :
    (convert 38 9 v).run Try.prog w = .ok (.string (strOfNums (List.replicate n 0))) w :=
  conv_row (xs := List.replicate n 0) (by rw [List.map_replicate]; exact h)

set_option maxRecDepth 100000 in
set_option maxHeartbeats 1000000 in
theorem Unpacks_any (s id p : ByteArray) (w : World) (hs : s.size ≤ maxLen) (hid : id.size ≤ maxLen) (hr : p.size ≤ 140737488351232) :
    Calls Try.prog 5 #[.string s, .string id, .string p] w fun e w' => e = .returned (.bool true) ∧ Below w.heap.size w w' := by
  obtain ⟨i0, hinf, hz0, hzz1, hzz2⟩ := info_parts Try.infoU8
  have HINF := hide hinf
  have HZ0 := hide hz0
  have HZ1 := hide hzz1
  have HZB := hide hzz2
  clear hinf hz0 hzz1 hzz2
  go_enter Try.func5, Try.ntmps5
  go_wp2_with fail
  refine (Unpack_any s id p _ hs hid).mono ?_
  rintro e w1 ⟨⟨u, rfl, hu⟩, hb1⟩
  have HB1 := hide hb1
  have HU := hide hu
  obtain ⟨ua, ucap, rfl, hu1, hu2, hu3⟩ := hu
  clear hu1 hu2 hu3 hb1
  go_wp2_with (at_make; refine wpList_make_full _ rfl _ _ 38 rfl w1.heap.size 5 i0 (.int .u8 0) 1 Try.underlying38 (unhide HINF) (unhide HZ0) (unhide HZ1) .i64 .i64 (p.size : Int) (p.size : Int) p.size rfl rfl rfl rfl (by rw [unhide HZB]; omega) (by unfold maxLen; omega) (Nat.le_refl _) ?_)
  intro w2 hown hgrow
  rw [toList_madeCells_one] at hown
  have hconv := bytes_made p.size hown
  have HB2 := hide ((Below.refl w1.heap.size w1).grown hgrow (Nat.le_refl _) (by simp))
  clear hown hgrow
  go_wp2_with fail
  refine (Unpack_any s id _ _ hs hid).mono ?_
  rintro e w3 ⟨⟨v, rfl, _⟩, hb3⟩
  have HB3 := hide ((unhide HB2).trans (hb3.mono (unhide HB2).size))
  clear hb3 hconv
  go_wp2_with fail
  refine (rUnpack_any s id p _ hs).mono ?_
  rintro e w4 ⟨⟨x, rfl, hx⟩, hb4⟩
  have HB4 := hide ((unhide HB3).trans (hb4.mono (unhide HB3).size))
  have HX := hide hx
  obtain ⟨xa, xcap, rfl, hx1, hx2, hx3⟩ := hx
  clear hb4 hx1 hx2 hx3
  go_wp2_with fail
  refine (Same_any _ _ (up s id p).1 _ ((unhide HU).below (unhide HB4)) (unhide HX) (by have := up_len s id p; omega)).mono ?_
  rintro e w5 ⟨rfl, hb5⟩
  have HB5 := hide ((unhide HB1).trans (((unhide HB4).trans (hb5.mono (unhide HB4).size)).mono (unhide HB1).size))
  clear hb5
  clear HU HX
  generalize (up s id p).2.1 = x1
  generalize (up s id p).2.2.1 = x2
  generalize (up s id p).2.2.2 = x3
  go_wp2_with go_in
  go_ret
  exact ⟨rfl, unhide HB5⟩

end Go.Proofs.Ytoihlnjcgopdlaa

namespace Go.Proofs.Ytoihlnjcgopdlaa
open Go.RowKit

theorem pk_ok {s id : ByteArray} {Z : List Int} (h : (pk s id Z).2.1 = 0) : chkE s = 0 ∧ ¬ 320 < s.size ∧ ∃ M k, pDb s 4 0 = .inr M ∧ k < M.length ∧ msgIx M id = (k : Nat) ∧ Z.length = (mAt M k).sigs.length ∧
    firstUn (mAt M k).sigs Z (choiceOf (mAt M k).sigs Z) < 0 ∧ (pk s id Z).1 = payB (bitsTo (mAt M k).sigs Z (choiceOf (mAt M k).sigs Z) (mAt M k).sigs.length) (mAt M k).sz.toNat := by
  have hz : chkE s = 0 := by
    by_cases hz : chkE s = 0
    · exact hz
    · rw [pk_bad hz] at h; exact h
  have hl : ¬ 320 < s.size := by
    intro hl
    rw [(chk_long hl).1] at hz; omega
  refine ⟨hz, hl, ?_⟩
  cases hp : pDb s 4 0 with
  | inl p => rw [(chk_text hl hp).1] at hz; omega
  | inr M =>
    rcases findIx_cases (fun k => decide ((mAt M k).id = id)) M.length with ⟨hn, _⟩ | ⟨k, hk, hkk, _⟩
    · rw [pk_id hz hp hn] at h; simp at h
    · have e : msgIx M id = k := hkk
      have hm := pk_msg (Z := Z) hz hp e
      rw [hm] at h ⊢
      rw [pkMsg] at h
      split at h
      · simp at h
      · rename_i hln
        split at h
        · simp at h
        · rename_i hu
          refine ⟨M, k, rfl, hk, e, by omega, by omega, ?_⟩
          rw [pkMsg, if_neg hln, if_neg hu]

theorem signs_at (L : List Sg) (c : Int) {k : Nat} (h : k < (strOfNums (signsL L c L.length)).size) : ((strOfNums (signsL L c L.length))[k].toNat : Int) = signN L c k := by
  have e : (strOfNums (signsL L c L.length))[k] = UInt8.ofNat (signN L c k).toNat := by
    simp [strOfNums, signsL, ByteArray.getElem_eq_getElem_data]
  rw [e, signN]
  split <;> rfl

/-- P6: what is unpacked of what was packed. -/
theorem up_back {s id : ByteArray} {Z : List Int} {M : List Mg} {k : Nat} (hz : chkE s = 0) (hp : pDb s 4 0 = .inr M) (hk : k < M.length) (hix : msgIx M id = k)
    (hu : firstUn (mAt M k).sigs Z (choiceOf (mAt M k).sigs Z) < 0) :
    ∃ V T, up s id (payB (bitsTo (mAt M k).sigs Z (choiceOf (mAt M k).sigs Z) (mAt M k).sigs.length) (mAt M k).sz.toNat) = (V, T, 0, 0) ∧ V.length = (mAt M k).sigs.length ∧ T.size = (mAt M k).sigs.length ∧
      ∀ j, j < (mAt M k).sigs.length → zAt V j = backAt (mAt M k).sigs Z j ∧ ∀ h : j < T.size, (T[j].toNat : Int) = signN (mAt M k).sigs (choiceOf (mAt M k).sigs Z) j := by
  obtain ⟨ok, hg⟩ := good_of hp hk
  have h0 := ok.sz0
  have h1 := ok.sz1
  have hs : Sound (mAt M k).sigs (mAt M k).sz := fun j hj => sound_at hz hp hk hj
  have hw := sound_within hz hp hk
  have hsz : (payB (bitsTo (mAt M k).sigs Z (choiceOf (mAt M k).sigs Z) (mAt M k).sigs.length) (mAt M k).sz.toNat).size = (mAt M k).sz.toNat := by rw [payB, strOfNums_size, bytesL_len]
  rw [up_msg (by omega) hz hp hix, upMsg, if_neg (by rw [hsz]; omega)]
  rw [choice_back hs hg hw h0 hu]
  refine ⟨_, _, rfl, valsL_len _ _ _ _, by rw [strOfNums_size]; simp [signsL], fun j hj => ⟨vals_back hs hg hw h0 hu hj, fun h => signs_at _ _ h⟩⟩

set_option maxRecDepth 100000 in
set_option maxHeartbeats 1000000 in
theorem lChosen_any (id : ByteArray) (sz pl : Int) (v vz : Value) (L : List Sg) (Z : List Int) (w : World) (h : RSigsAt w v L) (hl : L.length ≤ 8) (hz : IntsAt w vz Z) (hlen : Z.length = L.length) :
    Calls Try.prog 25 #[.agg #[.string id, .int .i64 sz, v, .int .i64 pl], vz] w fun e w' => e = .returned (.int .i64 (choiceOf L Z)) ∧ Below w.heap.size w w' := by
  obtain ⟨za, zcap, rfl, hz1, hz2, hz3⟩ := hz
  have HN := hide hz2
  have HZC := hide hz3
  clear hz2 hz3
  have hle1 : Z.length ≤ L.length := by omega
  have hle2 : L.length ≤ Z.length := by omega
  clear hlen
  rcases h.opened with ⟨rfl, a, c, rfl⟩ | ⟨g, cap, rfl, hg, hcap, _, hc⟩
  · go_enter Try.func25, Try.ntmps25
    go_wp2
    refine wp_loop_rounds 1 ?_
    rw [rounds_succ]
    go_wp2
    go_ret
    exact ⟨ret_int (by simp [choiceOf, muxOf, findIx]), (Below.refl _ _).alloc (Nat.le_refl _) _⟩
  · have HC := hide hc
    clear hc
    go_enter Try.func25, Try.ntmps25
    go_wp2
    go_loop [5] (fun i => ∃ k : Nat, k ≤ L.length ∧ i = .int .i64 k ∧ ∀ j, j < k → decide ((sgAt L j).rl = 77) = false) (fun i => L.length - (intOf i).toNat)
    case atStart => exact ⟨0, by omega, rfl, by intro j hj; omega⟩
    case round =>
      obtain ⟨k, hk, rfl, hno⟩ := hrel
      have HNO := hide hno
      clear hno
      by_cases hlt : k < L.length
      · have hc6 : ∀ o : Obj, (w.alloc o).cell? ⟨g, k * 7 + 5, none⟩ = some (.int .u8 (sgAt L k).rl) := fun o => by rw [alloc_cell hg]; exact (unhide HC) k 5 hlt (by omega)
        by_cases hm : (sgAt L k).rl = 77
        · have hmb : ((sgAt L k).rl == 77) = true := by simp [hm]
          have HM := hide hm
          cases za with
          | none => have := unhide HN rfl; omega
          | some xa =>
            have hzc := fun o : Obj => ints_cell (unhide HZC xa rfl) ((Below.refl w.heap.size w).alloc (Nat.le_refl _) o) (show k < Z.length by omega)
            have hi0 : (0 : Int) ≤ (k : Int) := by omega
            have hi1 : (k : Int) < (Z.length : Int) := by omega
            clear hm
            go_wp2
            go_ret
            exact ⟨ret_int (by
              have hmx : muxOf L = k := by rw [muxOf, findIx_is (unhide HNO) hlt (by simpa using unhide HM)]
              rw [choiceOf, hmx, if_pos (by omega), Int.toNat_natCast]), (Below.refl _ _).alloc (Nat.le_refl _) _⟩
        · have hmb : ((sgAt L k).rl == 77) = false := by simp [hm]
          have HM := hide hm
          clear hm
          go_wp2
          go_round
          case rel => exact ⟨k + 1, by omega, by go_num, fun j hj => by
            by_cases e : j = k
            · subst e; simpa using unhide HM
            · exact unhide HNO j (by omega)⟩
          case measure => simp [intOf]; omega
      · go_wp2
        go_ret
        exact ⟨ret_int (by
          have hmx : muxOf L = -1 := by rw [muxOf, findIx_none (fun j hj => unhide HNO j (by omega))]
          rw [choiceOf, hmx]; rfl), (Below.refl _ _).alloc (Nat.le_refl _) _⟩

end Go.Proofs.Ytoihlnjcgopdlaa

namespace Go.Proofs.Ytoihlnjcgopdlaa
open Go.RowKit

set_option maxRecDepth 100000 in
set_option maxHeartbeats 1600000 in
theorem Back_any (s id : ByteArray) (v : Value) (Z : List Int) (w : World) (hs : s.size ≤ maxLen) (hid : id.size ≤ maxLen) (hz : IntsAt w v Z) (hr : Z.length * 8 ≤ 140737488351232) :
    Calls Try.prog 6 #[.string s, .string id, v] w fun e w' => e = .returned (.bool true) ∧ Below w.heap.size w w' := by
  have HZ := hide hz
  obtain ⟨za, zcap, rfl, hz1, hz2, hz3⟩ := hz
  have HZ2 := hide hz2
  have HZ3 := hide hz3
  clear hz2 hz3
  go_enter Try.func6, Try.ntmps6
  go_wp2_with fail
  refine (copied_any _ Z _ (unhide HZ) hr).mono ?_
  rintro e w1 ⟨u, rfl, hu, hb1⟩
  have HU := hide hu
  have HB1 := hide hb1
  obtain ⟨ua, ucap, rfl, hu1, hu2, hu3⟩ := hu
  clear hu2 hu3 hb1 hu1
  go_wp2_with fail
  refine (Pack_any s id _ Z _ hs hid (unhide HU)).mono ?_
  rintro e w2 ⟨rfl, hb2⟩
  have HB2 := hide ((unhide HB1).trans (hb2.mono (unhide HB1).size))
  clear hb2
  go_wp2_with fail
  refine (rCheck_any s _ hs).mono ?_
  rintro e w3 ⟨rfl, hb3⟩
  have HB3 := hide ((unhide HB2).trans (hb3.mono (unhide HB2).size))
  clear hb3
  by_cases hpe : (pk s id Z).2.1 = 0
  case neg =>
    have hne : ((pk s id Z).2.1 != 0) = true := by simpa using hpe
    clear hpe
    generalize (pk s id Z).2.1 = x2 at *
    go_wp2_with (go_at_call 17; refine (num_any _ _).mono ?_; rintro e w' ⟨rfl, rfl⟩)
    go_ret
    exact ⟨rfl, unhide HB3⟩
  obtain ⟨hzc, hl320, M, k, hpd, hk, hix, hlen, hun, hpp⟩ := pk_ok hpe
  obtain ⟨V, T, hup, hVl, hTl, hVT⟩ := up_back (Z := Z) hzc hpd hk hix hun
  obtain ⟨ok, hg⟩ := good_of hpd hk
  rw [hpe, hzc]
  rw [← hpp] at hup
  obtain ⟨p, hpn⟩ : ∃ p, p = (pk s id Z).1 := ⟨_, rfl⟩
  rw [← hpn] at hup
  rw [← hpn]
  have HPD := hide hpd
  have HIX := hide hix
  have HUP := hide hup
  have HVT := hide hVT
  have HG := hide hg
  have HLEN := hide hlen
  have HVL := hide hVl
  have hlen8 := ok.len
  have H320 := hide hl320
  have HK := hide hk
  clear hpe hzc hpd hix hun hpp hup hVT hg ok hpn hl320 hlen hVl hk
  go_wp2_with (go_at_call 17; refine (num_any _ _).mono ?_; rintro e w' ⟨rfl, rfl⟩)
  refine (rFind_any s id M _ (by have := unhide H320; omega) (unhide HPD)).mono ?_
  rintro e w4 ⟨hout, hb4⟩
  have HB4 := hide ((unhide HB3).trans (hb4.mono (unhide HB3).size))
  clear hb4
  rcases hout with ⟨hix', rfl⟩ | ⟨k', sv, hk', hix', rfl, hsv⟩
  · have := unhide HIX; omega
  obtain rfl : k' = k := by have := unhide HIX; omega
  obtain ⟨m, hm⟩ : ∃ m, m = mAt M k' := ⟨_, rfl⟩
  rw [← hm] at hsv HG HVT HLEN HVL hTl hlen8
  rw [← hm]
  have HSV := hide hsv
  obtain ⟨va, vcap, rfl⟩ := ownsRow_form hsv
  clear hsv hix' hk' hm
  have hbox := fun (wx : World) (h : Below (w4.heap.size + 1) (w4.alloc (.cells #[.string m.id, .int .i64 m.sz, .slice va m.sigs.length vcap, .int .i64 m.pl] 45)) wx) => box_cell h
  have HB5 : Hid (Below (w4.heap.size + 1) (w4.alloc (.cells #[.string m.id, .int .i64 m.sz, .slice va m.sigs.length vcap, .int .i64 m.pl] 45)) (w4.alloc (.cells #[.string m.id, .int .i64 m.sz, .slice va m.sigs.length vcap, .int .i64 m.pl] 45))) := hide (Below.refl _ _)
  go_wp2_with fail
  refine (Unpack_any s id p _ hs hid).mono ?_
  rintro e w6 ⟨⟨x, rfl, hx⟩, hb6⟩
  rw [unhide HUP] at hx
  rw [unhide HUP]
  dsimp only at hx ⊢
  have HX := hide hx
  have HB6 := hide (box_next (unhide HB5) hb6)
  have hbw6 := hbox _ (unhide HB6)
  obtain ⟨xa, xcap, rfl, hx1, hx2, hx3⟩ := hx
  have HX2 := hide hx2
  have HX3 := hide hx3
  clear hb6 hx2 hx3
  have hq1 : ((Z.length : Int) != (m.sigs.length : Int)) = false := by rw [unhide HLEN]; simp
  have hq2 : ((V.length : Int) != (m.sigs.length : Int)) = false := by rw [unhide HVL]; simp
  have hq3 : ((T.size : Int) != (m.sigs.length : Int)) = false := by rw [hTl]; simp
  have hle1 : m.sigs.length ≤ Z.length := by have := unhide HLEN; omega
  have hle2 : m.sigs.length ≤ V.length := by have := unhide HVL; omega
  have hle3 : m.sigs.length ≤ T.size := by omega
  have hle4 : V.length ≤ m.sigs.length := by have := unhide HVL; omega
  clear hTl
  go_wp2_with (go_at_call 17; refine (num_any _ _).mono ?_; rintro e w' ⟨rfl, rfl⟩)
  refine (lChosen_any m.id m.sz m.pl _ _ m.sigs Z _ (ownsRow_below (unhide HSV) (box_below (unhide HB6))) hlen8 ((unhide HZ).below ((unhide HB4).trans ((box_below (unhide HB6)).mono (unhide HB4).size))) (unhide HLEN)).mono ?_
  rintro e w7 ⟨rfl, hb7⟩
  have HB7 := hide hb7
  clear hb7 hbw6
  obtain ⟨c, HCC⟩ : ∃ c, Hid (c = choiceOf m.sigs Z) := ⟨_, hide rfl⟩
  rw [← unhide HCC]
  have hcz := fun (wx : World) (h : Below w6.heap.size w6 wx) => hbox _ (box_next (unhide HB6) h)
  go_wp2
  go_loopw [20, 21] (fun i _ wr => ∃ n : Nat, n ≤ m.sigs.length ∧ i = .int .i64 n ∧ Below w6.heap.size w6 wr) (fun i _ _ => m.sigs.length - (intOf i).toNat)
  case atStart => exact ⟨0, by omega, rfl, unhide HB7⟩
  case round =>
    obtain ⟨n, hn, rfl, hb⟩ := hrel
    have HB := hide hb
    have hbw := hcz _ hb
    clear hb
    by_cases hlt : n < m.sigs.length
    · obtain ⟨_, r0, r1⟩ := (unhide HG).2 n hlt
      obtain ⟨hv1, ht1⟩ := unhide HVT n hlt
      have hi0 : (0 : Int) ≤ (n : Int) := by omega
      have hi1 : (n : Int) < (m.sigs.length : Int) := by omega
      have hi2 : (n : Int) < (Z.length : Int) := by omega
      have hi3 : (n : Int) < (V.length : Int) := by omega
      have hi4 : (n : Int) < (T.size : Int) := by omega
      have hi5 : n < T.size := by omega
      have HV1 := hide hv1
      have HT1 := hide (ht1 hi5)
      clear hv1 ht1
      go_wp2_with fail
      refine (rActive_any m.id m.sz m.pl _ m.sigs n c _ (ownsRow_below (unhide HSV) (box_below (box_next (unhide HB6) (unhide HB)))) hlen8 hlt r0 r1).mono ?_
      rintro e w8 ⟨rfl, hb8⟩
      have hb8' := (unhide HB).trans (hb8.mono (unhide HB).size)
      have HB8 := hide hb8'
      clear hb8 hbw
      cases xa with
      | none => have := unhide HX2 rfl; omega
      | some xx =>
      cases za with
      | none => have := unhide HZ2 rfl; omega
      | some zz =>
      have hcx := fun (wx : World) (h : Below w6.heap.size w6 wx) => ints_cell (unhide HZ3 zz rfl) ((unhide HB4).trans ((box_below (box_next (unhide HB6) h)).mono (unhide HB4).size)) (show n < Z.length by omega)
      have hcv := fun (wx : World) (h : Below w6.heap.size w6 wx) => ints_cell (unhide HX3 xx rfl) h (show n < V.length by omega)
      cases hac : activeB (sgAt m.sigs n).rl c with
      | false =>
        have hvz : zAt V n = 0 := by rw [unhide HV1, backAt, ← unhide HCC, hac]; rfl
        have htt : (T[n].toNat : Int) = 45 := by rw [unhide HT1, signN, ← unhide HCC, hac]; rfl
        rw [hvz] at hcv
        have hte : ((T[n].toNat : Int) != 45) = false := by rw [htt]; rfl
        clear htt hvz hcx
        go_wp2
        refine wp_region_noPanic ?_
        refine wp_region_held_drew (S := fun w' => Below w6.heap.size w6 w') (by kernel_rfl) hb8'.drew (fun hHeld => ?_)
        refine wpAnyH_take (i := 0) (v := ?_) (at_list rfl) (by kernel_rfl) (by kernel_rfl) (by kernel_rfl) (fun _ _ _ h => h) (Or.inl ⟨by rfl, ?_⟩) (by assumption) ?_
        rotate_left
        · intro w hSw; (try dsimp only at hSw); first | (go_simp; done) | (go_simp; with_reducible rfl)
        try simp only [Act.put]
        try simp only [List.setIfInBounds_toArray]
        try simp only [List.set_cons_succ]
        try simp only [List.set_cons_zero]
        refine wpAnyH_take (i := 1) (v := ?_) (at_list rfl) (by kernel_rfl) (by kernel_rfl) (by kernel_rfl) (fun _ _ _ h => h) (Or.inl ⟨by rfl, ?_⟩) (by assumption) ?_
        rotate_left
        · intro w hSw; (try dsimp only at hSw); first | (go_simp; done) | (go_simp; with_reducible rfl)
        try simp only [Act.put]
        try simp only [List.setIfInBounds_toArray]
        try simp only [List.set_cons_succ]
        try simp only [List.set_cons_zero]
        refine wpAnyH_take (i := 2) (v := undef) (at_list rfl) (by kernel_rfl) (by kernel_rfl) (by kernel_rfl) (fun _ _ _ h => h) (Or.inr ⟨by rfl, rfl⟩) (by assumption) ?_
        try simp only [Act.put]
        try simp only [List.setIfInBounds_toArray]
        try simp only [List.set_cons_succ]
        try simp only [List.set_cons_zero]
        refine wpAnyH_take (i := 3) (v := undef) (at_list rfl) (by kernel_rfl) (by kernel_rfl) (by kernel_rfl) (fun _ _ _ h => h) (Or.inr ⟨by rfl, rfl⟩) (by assumption) ?_
        try simp only [Act.put]
        try simp only [List.setIfInBounds_toArray]
        try simp only [List.set_cons_succ]
        try simp only [List.set_cons_zero]
        refine wpAnyH_take (i := 4) (v := undef) (at_list rfl) (by kernel_rfl) (by kernel_rfl) (by kernel_rfl) (fun _ _ _ h => h) (Or.inr ⟨by rfl, rfl⟩) (by assumption) ?_
        try simp only [Act.put]
        try simp only [List.setIfInBounds_toArray]
        try simp only [List.set_cons_succ]
        try simp only [List.set_cons_zero]
        refine wpAnyH_take (i := 5) (v := undef) (at_list rfl) (by kernel_rfl) (by kernel_rfl) (by kernel_rfl) (fun _ _ _ h => h) (Or.inr ⟨by rfl, rfl⟩) (by assumption) ?_
        try simp only [Act.put]
        try simp only [List.setIfInBounds_toArray]
        try simp only [List.set_cons_succ]
        try simp only [List.set_cons_zero]
        refine wpAnyH_take (i := 6) (v := undef) (at_list rfl) (by kernel_rfl) (by kernel_rfl) (by kernel_rfl) (fun _ _ _ h => h) (Or.inr ⟨by rfl, rfl⟩) (by assumption) ?_
        try simp only [Act.put]
        try simp only [List.setIfInBounds_toArray]
        try simp only [List.set_cons_succ]
        try simp only [List.set_cons_zero]
        refine wpAnyH_take (i := 7) (v := undef) (at_list rfl) (by kernel_rfl) (by kernel_rfl) (by kernel_rfl) (fun _ _ _ h => h) (Or.inr ⟨by rfl, rfl⟩) (by assumption) ?_
        try simp only [Act.put]
        try simp only [List.setIfInBounds_toArray]
        try simp only [List.set_cons_succ]
        try simp only [List.set_cons_zero]
        refine wpAnyH_take (i := 8) (v := undef) (at_list rfl) (by kernel_rfl) (by kernel_rfl) (by kernel_rfl) (fun _ _ _ h => h) (Or.inr ⟨by rfl, rfl⟩) (by assumption) ?_
        try simp only [Act.put]
        try simp only [List.setIfInBounds_toArray]
        try simp only [List.set_cons_succ]
        try simp only [List.set_cons_zero]
        refine wpAnyH_take (i := 9) (v := undef) (at_list rfl) (by kernel_rfl) (by kernel_rfl) (by kernel_rfl) (fun _ _ _ h => h) (Or.inr ⟨by rfl, rfl⟩) (by assumption) ?_
        try simp only [Act.put]
        try simp only [List.setIfInBounds_toArray]
        try simp only [List.set_cons_succ]
        try simp only [List.set_cons_zero]
        refine wpAnyH_take (i := 10) (v := undef) (at_list rfl) (by kernel_rfl) (by kernel_rfl) (by kernel_rfl) (fun _ _ _ h => h) (Or.inr ⟨by rfl, rfl⟩) (by assumption) ?_
        try simp only [Act.put]
        try simp only [List.setIfInBounds_toArray]
        try simp only [List.set_cons_succ]
        try simp only [List.set_cons_zero]
        refine wpAnyH_take (i := 11) (v := undef) (at_list rfl) (by kernel_rfl) (by kernel_rfl) (by kernel_rfl) (fun _ _ _ h => h) (Or.inr ⟨by rfl, rfl⟩) (by assumption) ?_
        try simp only [Act.put]
        try simp only [List.setIfInBounds_toArray]
        try simp only [List.set_cons_succ]
        try simp only [List.set_cons_zero]
        refine wpAnyH_take (i := 12) (v := undef) (at_list rfl) (by kernel_rfl) (by kernel_rfl) (by kernel_rfl) (fun _ _ _ h => h) (Or.inr ⟨by rfl, rfl⟩) (by assumption) ?_
        try simp only [Act.put]
        try simp only [List.setIfInBounds_toArray]
        try simp only [List.set_cons_succ]
        try simp only [List.set_cons_zero]
        refine wpAnyH_take (i := 13) (v := undef) (at_list rfl) (by kernel_rfl) (by kernel_rfl) (by kernel_rfl) (fun _ _ _ h => h) (Or.inr ⟨by rfl, rfl⟩) (by assumption) ?_
        try simp only [Act.put]
        try simp only [List.setIfInBounds_toArray]
        try simp only [List.set_cons_succ]
        try simp only [List.set_cons_zero]
        refine wpAnyH_take (i := 14) (v := undef) (at_list rfl) (by kernel_rfl) (by kernel_rfl) (by kernel_rfl) (fun _ _ _ h => h) (Or.inr ⟨by rfl, rfl⟩) (by assumption) ?_
        try simp only [Act.put]
        try simp only [List.setIfInBounds_toArray]
        try simp only [List.set_cons_succ]
        try simp only [List.set_cons_zero]
        refine wpAnyH_take (i := 15) (v := undef) (at_list rfl) (by kernel_rfl) (by kernel_rfl) (by kernel_rfl) (fun _ _ _ h => h) (Or.inr ⟨by rfl, rfl⟩) (by assumption) ?_
        try simp only [Act.put]
        try simp only [List.setIfInBounds_toArray]
        try simp only [List.set_cons_succ]
        try simp only [List.set_cons_zero]
        refine wpAnyH_take (i := 16) (v := undef) (at_list rfl) (by kernel_rfl) (by kernel_rfl) (by kernel_rfl) (fun _ _ _ h => h) (Or.inr ⟨by rfl, rfl⟩) (by assumption) ?_
        try simp only [Act.put]
        try simp only [List.setIfInBounds_toArray]
        try simp only [List.set_cons_succ]
        try simp only [List.set_cons_zero]
        refine wpAnyH_take (i := 17) (v := ?_) (at_list rfl) (by kernel_rfl) (by kernel_rfl) (by kernel_rfl) (fun _ _ _ h => h) (Or.inl ⟨by rfl, ?_⟩) (by assumption) ?_
        rotate_left
        · intro w hSw; (try dsimp only at hSw); first | (go_simp; done) | (go_simp; with_reducible rfl)
        try simp only [Act.put]
        try simp only [List.setIfInBounds_toArray]
        try simp only [List.set_cons_succ]
        try simp only [List.set_cons_zero]
        refine wpAnyH_done (by kernel_rfl) ?_ _
        refine NoPanic.normal ?_
        have hcv2 := hcv _ hHeld
        go_wp2
        go_roundw
        case rel => exact ⟨n + 1, by omega, by go_num, by assumption⟩
        case measure => simp [intOf]; omega
      | true =>
        have hvz : zAt V n = zAt Z n := by rw [unhide HV1, backAt, ← unhide HCC, hac]; rfl
        have htt : (T[n].toNat : Int) = 43 := by rw [unhide HT1, signN, ← unhide HCC, hac]; rfl
        rw [hvz] at hcv
        have hte : ((T[n].toNat : Int) != 43) = false := by rw [htt]; rfl
        have hzz : (zAt Z n != zAt Z n) = false := by simp
        clear htt hvz
        go_wp2
        refine wp_region_noPanic ?_
        refine wp_region_held_drew (S := fun w' => Below w6.heap.size w6 w') (by kernel_rfl) hb8'.drew (fun hHeld => ?_)
        refine wpAnyH_take (i := 0) (v := ?_) (at_list rfl) (by kernel_rfl) (by kernel_rfl) (by kernel_rfl) (fun _ _ _ h => h) (Or.inl ⟨by rfl, ?_⟩) (by assumption) ?_
        rotate_left
        · intro w hSw; (try dsimp only at hSw); first | (go_simp; done) | (go_simp; with_reducible rfl)
        try simp only [Act.put]
        try simp only [List.setIfInBounds_toArray]
        try simp only [List.set_cons_succ]
        try simp only [List.set_cons_zero]
        refine wpAnyH_take (i := 1) (v := ?_) (at_list rfl) (by kernel_rfl) (by kernel_rfl) (by kernel_rfl) (fun _ _ _ h => h) (Or.inl ⟨by rfl, ?_⟩) (by assumption) ?_
        rotate_left
        · intro w hSw; (try dsimp only at hSw); first | (go_simp; done) | (go_simp; with_reducible rfl)
        try simp only [Act.put]
        try simp only [List.setIfInBounds_toArray]
        try simp only [List.set_cons_succ]
        try simp only [List.set_cons_zero]
        refine wpAnyH_take (i := 2) (v := ?_) (at_list rfl) (by kernel_rfl) (by kernel_rfl) (by kernel_rfl) (fun _ _ _ h => h) (Or.inl ⟨by rfl, ?_⟩) (by assumption) ?_
        rotate_left
        · intro w hSw; (try dsimp only at hSw); first | (go_simp; done) | (go_simp; with_reducible rfl)
        try simp only [Act.put]
        try simp only [List.setIfInBounds_toArray]
        try simp only [List.set_cons_succ]
        try simp only [List.set_cons_zero]
        refine wpAnyH_take (i := 3) (v := ?_) (at_list rfl) (by kernel_rfl) (by kernel_rfl) (by kernel_rfl) (fun _ _ _ h => h) (Or.inl ⟨by rfl, ?_⟩) (by assumption) ?_
        rotate_left
        · intro w hSw; (try dsimp only at hSw); first | (go_simp; done) | (go_simp; with_reducible rfl)
        try simp only [Act.put]
        try simp only [List.setIfInBounds_toArray]
        try simp only [List.set_cons_succ]
        try simp only [List.set_cons_zero]
        refine wpAnyH_take (i := 4) (v := ?_) (at_list rfl) (by kernel_rfl) (by kernel_rfl) (by kernel_rfl) (fun _ _ _ h => h) (Or.inl ⟨by rfl, ?_⟩) (by assumption) ?_
        rotate_left
        · intro w hSw; (try dsimp only at hSw); first | (go_simp; done) | (go_simp; with_reducible rfl)
        try simp only [Act.put]
        try simp only [List.setIfInBounds_toArray]
        try simp only [List.set_cons_succ]
        try simp only [List.set_cons_zero]
        refine wpAnyH_take (i := 5) (v := ?_) (at_list rfl) (by kernel_rfl) (by kernel_rfl) (by kernel_rfl) (fun _ _ _ h => h) (Or.inl ⟨by rfl, ?_⟩) (by assumption) ?_
        rotate_left
        · intro w hSw; (try dsimp only at hSw); first | (go_simp; done) | (go_simp; with_reducible rfl)
        try simp only [Act.put]
        try simp only [List.setIfInBounds_toArray]
        try simp only [List.set_cons_succ]
        try simp only [List.set_cons_zero]
        refine wpAnyH_take (i := 6) (v := ?_) (at_list rfl) (by kernel_rfl) (by kernel_rfl) (by kernel_rfl) (fun _ _ _ h => h) (Or.inl ⟨by rfl, ?_⟩) (by assumption) ?_
        rotate_left
        · intro w hSw; (try dsimp only at hSw); first | (go_simp; done) | (go_simp; with_reducible rfl)
        try simp only [Act.put]
        try simp only [List.setIfInBounds_toArray]
        try simp only [List.set_cons_succ]
        try simp only [List.set_cons_zero]
        refine wpAnyH_take (i := 7) (v := ?_) (at_list rfl) (by kernel_rfl) (by kernel_rfl) (by kernel_rfl) (fun _ _ _ h => h) (Or.inl ⟨by rfl, ?_⟩) (by assumption) ?_
        rotate_left
        · intro w hSw; (try dsimp only at hSw); first | (go_simp; done) | (go_simp; with_reducible rfl)
        try simp only [Act.put]
        try simp only [List.setIfInBounds_toArray]
        try simp only [List.set_cons_succ]
        try simp only [List.set_cons_zero]
        refine wpAnyH_take (i := 8) (v := ?_) (at_list rfl) (by kernel_rfl) (by kernel_rfl) (by kernel_rfl) (fun _ _ _ h => h) (Or.inl ⟨by rfl, ?_⟩) (by assumption) ?_
        rotate_left
        · intro w hSw; (try dsimp only at hSw); first | (go_simp; done) | (go_simp; with_reducible rfl)
        try simp only [Act.put]
        try simp only [List.setIfInBounds_toArray]
        try simp only [List.set_cons_succ]
        try simp only [List.set_cons_zero]
        refine wpAnyH_take (i := 9) (v := ?_) (at_list rfl) (by kernel_rfl) (by kernel_rfl) (by kernel_rfl) (fun _ _ _ h => h) (Or.inl ⟨by rfl, ?_⟩) (by assumption) ?_
        rotate_left
        · intro w hSw; (try dsimp only at hSw); first | (go_simp; done) | (go_simp; with_reducible rfl)
        try simp only [Act.put]
        try simp only [List.setIfInBounds_toArray]
        try simp only [List.set_cons_succ]
        try simp only [List.set_cons_zero]
        refine wpAnyH_take (i := 10) (v := ?_) (at_list rfl) (by kernel_rfl) (by kernel_rfl) (by kernel_rfl) (fun _ _ _ h => h) (Or.inl ⟨by rfl, ?_⟩) (by assumption) ?_
        rotate_left
        · intro w hSw; (try dsimp only at hSw); first | (go_simp; done) | (go_simp; with_reducible rfl)
        try simp only [Act.put]
        try simp only [List.setIfInBounds_toArray]
        try simp only [List.set_cons_succ]
        try simp only [List.set_cons_zero]
        refine wpAnyH_take (i := 11) (v := ?_) (at_list rfl) (by kernel_rfl) (by kernel_rfl) (by kernel_rfl) (fun _ _ _ h => h) (Or.inl ⟨by rfl, ?_⟩) (by assumption) ?_
        rotate_left
        · intro w hSw; (try dsimp only at hSw); first | (go_simp; done) | (go_simp; with_reducible rfl)
        try simp only [Act.put]
        try simp only [List.setIfInBounds_toArray]
        try simp only [List.set_cons_succ]
        try simp only [List.set_cons_zero]
        refine wpAnyH_take (i := 12) (v := ?_) (at_list rfl) (by kernel_rfl) (by kernel_rfl) (by kernel_rfl) (fun _ _ _ h => h) (Or.inl ⟨by rfl, ?_⟩) (by assumption) ?_
        rotate_left
        · intro w hSw; (try dsimp only at hSw); first | (go_simp; done) | (go_simp; with_reducible rfl)
        try simp only [Act.put]
        try simp only [List.setIfInBounds_toArray]
        try simp only [List.set_cons_succ]
        try simp only [List.set_cons_zero]
        refine wpAnyH_take (i := 13) (v := ?_) (at_list rfl) (by kernel_rfl) (by kernel_rfl) (by kernel_rfl) (fun _ _ _ h => h) (Or.inl ⟨by rfl, ?_⟩) (by assumption) ?_
        rotate_left
        · intro w hSw; (try dsimp only at hSw); first | (go_simp; done) | (go_simp; with_reducible rfl)
        try simp only [Act.put]
        try simp only [List.setIfInBounds_toArray]
        try simp only [List.set_cons_succ]
        try simp only [List.set_cons_zero]
        refine wpAnyH_take (i := 14) (v := ?_) (at_list rfl) (by kernel_rfl) (by kernel_rfl) (by kernel_rfl) (fun _ _ _ h => h) (Or.inl ⟨by rfl, ?_⟩) (by assumption) ?_
        rotate_left
        · intro w hSw; (try dsimp only at hSw); first | (go_simp; done) | (go_simp; with_reducible rfl)
        try simp only [Act.put]
        try simp only [List.setIfInBounds_toArray]
        try simp only [List.set_cons_succ]
        try simp only [List.set_cons_zero]
        refine wpAnyH_take (i := 15) (v := ?_) (at_list rfl) (by kernel_rfl) (by kernel_rfl) (by kernel_rfl) (fun _ _ _ h => h) (Or.inl ⟨by rfl, ?_⟩) (by assumption) ?_
        rotate_left
        · intro w hSw; (try dsimp only at hSw); first | (go_simp; done) | (go_simp; with_reducible rfl)
        try simp only [Act.put]
        try simp only [List.setIfInBounds_toArray]
        try simp only [List.set_cons_succ]
        try simp only [List.set_cons_zero]
        refine wpAnyH_take (i := 16) (v := ?_) (at_list rfl) (by kernel_rfl) (by kernel_rfl) (by kernel_rfl) (fun _ _ _ h => h) (Or.inl ⟨by rfl, ?_⟩) (by assumption) ?_
        rotate_left
        · intro w hSw; (try dsimp only at hSw); first | (go_simp; done) | (go_simp; with_reducible rfl)
        try simp only [Act.put]
        try simp only [List.setIfInBounds_toArray]
        try simp only [List.set_cons_succ]
        try simp only [List.set_cons_zero]
        refine wpAnyH_take (i := 17) (v := ?_) (at_list rfl) (by kernel_rfl) (by kernel_rfl) (by kernel_rfl) (fun _ _ _ h => h) (Or.inl ⟨by rfl, ?_⟩) (by assumption) ?_
        rotate_left
        · intro w hSw; (try dsimp only at hSw); first | (go_simp; done) | (go_simp; with_reducible rfl)
        try simp only [Act.put]
        try simp only [List.setIfInBounds_toArray]
        try simp only [List.set_cons_succ]
        try simp only [List.set_cons_zero]
        refine wpAnyH_done (by kernel_rfl) ?_ _
        refine NoPanic.normal ?_
        clear hcx hcv
        go_wp2
        go_roundw
        case rel => exact ⟨n + 1, by omega, by go_num, by assumption⟩
        case measure => simp [intOf]; omega
    · go_wp2
      go_ret
      exact ⟨rfl, (unhide HB4).trans ((box_below (box_next (unhide HB6) (unhide HB))).mono (unhide HB4).size)⟩

end Go.Proofs.Ytoihlnjcgopdlaa

namespace Go.Proofs.Ytoihlnjcgopdlaa
open Go.RowKit

theorem heldTo_bit (st ln od : Int) (N k j : Nat) (hj : j < k) : heldTo st ln od N k / 2 ^ j % 2 = bitN N (place st ln od j).toNat := by
  induction k with
  | zero => omega
  | succ k ih =>
    have hlt := heldTo_lt st ln od N k
    have hb := bitN_lt N (place st ln od k).toNat
    have e0 : heldTo st ln od N (k + 1) / 2 ^ j % 2 = bitN (heldTo st ln od N (k + 1)) j := rfl
    have ht : (heldTo st ln od N (k + 1)).testBit j = if j < k then (heldTo st ln od N k).testBit j else (bitN N (place st ln od k).toNat).testBit (j - k) := by
      rw [heldTo, Nat.add_comm, Nat.mul_comm, Nat.testBit_two_pow_mul_add _ hlt]
    rw [e0, bitN_test, ht]
    by_cases e : j = k
    · subst e
      have e1 : ¬ j < j := by omega
      simp only [e1, if_false, Nat.sub_self]
      obtain h | h : bitN N (place st ln od j).toNat = 0 ∨ bitN N (place st ln od j).toNat = 1 := by omega
      · rw [h]; rfl
      · rw [h]; rfl
    · have e1 : j < k := by omega
      simp only [e1, if_true]
      rw [← bitN_test]
      exact ih e1

theorem held_nat {st ln od kd : Int} {N : Nat} (h0 : 1 ≤ ln) : natural ln (heldV st ln od kd N) = (heldTo st ln od N ln.toNat : Int) ∧ -(half ln) ≤ heldV st ln od kd N ∧ heldV st ln od kd N < 2 * half ln := by
  have hlt := heldTo_lt st ln od N ln.toNat
  have hpw := pow_half ln h0
  have hpn : ((2 ^ ln.toNat : Nat) : Int) = 2 * half ln := by rw [← hpw]; simp
  have hp := half_pos ln
  unfold heldV
  split
  · rename_i h
    have := h.2
    rw [natural, if_pos (by omega)]
    omega
  · rw [natural, if_neg (by omega)]
    omega

theorem heldV_fits {st ln od kd : Int} {N : Nat} (h0 : 1 ≤ ln) : fitsB kd ln (heldV st ln od kd N) = true := by
  have hlt := heldTo_lt st ln od N ln.toNat
  have hpw := pow_half ln h0
  have hpn : ((2 ^ ln.toNat : Nat) : Int) = 2 * half ln := by rw [← hpw]; simp
  have hp := half_pos ln
  unfold fitsB heldV
  split
  · rename_i hk
    split
    · rename_i h
      have := h.2
      simp; omega
    · rename_i h
      have : ¬ half ln ≤ (heldTo st ln od N ln.toNat : Int) := fun hx => h ⟨hk, hx⟩
      simp; omega
  · rename_i hk
    rw [if_neg (fun hx => hk hx.1)]
    simp; omega

/-- The bits of what a signal holds are its bits. -/
theorem held_bit {st ln od kd : Int} {N : Nat} (h0 : 1 ≤ ln) (h1 : ln ≤ 32) {j : Nat} (hj : (j : Int) < ln) : bitv (heldV st ln od kd N) j = bitN N (place st ln od j).toNat := by
  obtain ⟨e, b1, b2⟩ := held_nat (st := st) (od := od) (kd := kd) (N := N) h0
  have h := (natural_bit ln _ j h0 h1 hj b1 b2).2.2
  rw [e] at h
  have e4 : ((heldTo st ln od N ln.toNat : Nat) : Int) / 2 ^ j % 2 = ((heldTo st ln od N ln.toNat / 2 ^ j % 2 : Nat) : Int) := by simp
  rw [e4, heldTo_bit _ _ _ _ _ _ (by omega)] at h
  omega

theorem zAt_vals (L : List Sg) (N : Nat) (c : Int) {n k : Nat} (hk : k < n) : zAt (valsL L N c n) k = valN L N c k := by
  rw [zAt, valsL, List.getD_eq_getElem?_getD, List.getElem?_map, List.getElem?_range hk]; rfl

theorem choice_vals (L : List Sg) (N : Nat) : choiceOf L (valsL L N (choiceN L N) L.length) = choiceN L N := by
  rcases mux_range L with hmx | ⟨x, hx, hmx, hr⟩
  · rw [choiceN, choiceOf, hmx]; rfl
  · rw [choiceOf, hmx, if_pos (by omega), Int.toNat_natCast, zAt_vals L N _ hx, valN, if_pos (mux_active hr _)]
    rw [choiceN, hmx, if_pos (by omega), Int.toNat_natCast]

theorem unfit_vals {L : List Sg} (hg : Good L) (N : Nat) (c : Int) : firstUn L (valsL L N c L.length) c < 0 := by
  rw [firstUn, findIx_none]
  · omega
  · intro k hk
    have ok := (hg.2 k hk).1
    rw [unfit, zAt_vals L N c hk, valN]
    cases ha : activeB (sgAt L k).rl c with
    | false => rfl
    | true => rw [if_pos rfl, held, heldV_fits ok.ln0]; rfl

/-- P6: what is packed of what was unpacked. -/
theorem pk_forth {s id : ByteArray} {N : Nat} {M : List Mg} {k : Nat} (hz : chkE s = 0) (hp : pDb s 4 0 = .inr M) (hk : k < M.length) (hix : msgIx M id = k) :
    pk s id (valsL (mAt M k).sigs N (choiceN (mAt M k).sigs N) (mAt M k).sigs.length) = (payB (bitsTo (mAt M k).sigs (valsL (mAt M k).sigs N (choiceN (mAt M k).sigs N) (mAt M k).sigs.length) (choiceN (mAt M k).sigs N) (mAt M k).sigs.length) (mAt M k).sz.toNat, 0, 0) := by
  have hu := unfit_vals (good_of hp hk).2 N (choiceN (mAt M k).sigs N)
  rw [pk_msg hz hp hix, pkMsg, if_neg (by rw [valsL_len]; simp), choice_vals, if_neg (by omega)]

theorem up_ok {s id p : ByteArray} (h : (up s id p).2.2.1 = 0) : chkE s = 0 ∧ ¬ 320 < s.size ∧ ¬ 8 < p.size ∧ ∃ M k, pDb s 4 0 = .inr M ∧ k < M.length ∧ msgIx M id = (k : Nat) ∧ (p.size : Int) = (mAt M k).sz ∧
    (up s id p).1 = valsL (mAt M k).sigs (payTo p p.size) (choiceN (mAt M k).sigs (payTo p p.size)) (mAt M k).sigs.length := by
  have h8 : ¬ 8 < p.size := by
    intro h8; rw [up_long h8] at h; simp at h
  have hz : chkE s = 0 := by
    by_cases hz : chkE s = 0
    · exact hz
    · rw [up_bad h8 hz] at h; exact h
  have hl : ¬ 320 < s.size := by
    intro hl
    rw [(chk_long hl).1] at hz; omega
  refine ⟨hz, hl, h8, ?_⟩
  cases hp : pDb s 4 0 with
  | inl p => rw [(chk_text hl hp).1] at hz; omega
  | inr M =>
    rcases findIx_cases (fun k => decide ((mAt M k).id = id)) M.length with ⟨hn, _⟩ | ⟨k, hk, hkk, _⟩
    · rw [up_id h8 hz hp hn] at h; simp at h
    · have e : msgIx M id = k := hkk
      have hm := up_msg h8 hz hp e
      rw [hm] at h ⊢
      rw [upMsg] at h
      split at h
      · simp at h
      · rename_i hln
        refine ⟨M, k, rfl, hk, e, by omega, ?_⟩
        rw [upMsg, if_neg hln]

end Go.Proofs.Ytoihlnjcgopdlaa

namespace Go.Proofs.Ytoihlnjcgopdlaa
open Go.RowKit

set_option maxRecDepth 100000 in
set_option maxHeartbeats 1000000 in
theorem rOwned_any (id p : ByteArray) (pl : Int) (v : Value) (L : List Sg) (w : World) (h : RSigsAt w v L) (hg : Good L) (h8 : p.size ≤ 8) (hwi : Within L p.size) :
    Calls Try.prog 27 #[.agg #[.string id, .int .i64 p.size, v, .int .i64 pl], .string p] w
      fun e w' => e = .returned (.string (payB (bitsTo L (valsL L (payTo p p.size) (choiceN L (payTo p p.size)) L.length) (choiceN L (payTo p p.size)) L.length) p.size)) ∧ Below w.heap.size w w' := by
  obtain ⟨i0, hinf, hz0, hzz1, hzz2⟩ := info_parts Try.infoU8
  have HINF := hide hinf
  have HZ0 := hide hz0
  have HZ1 := hide hzz1
  have HZB := hide hzz2
  clear hinf hz0 hzz1 hzz2
  have hl := hg.1
  have HG := hide hg
  have HWI := hide hwi
  have HSV := hide h
  obtain ⟨va, vcap, rfl⟩ := ownsRow_form h
  clear hg hwi h
  have hbox := fun (wx : World) (h : Below (w.heap.size + 1) (w.alloc (.cells #[.string id, .int .i64 p.size, .slice va L.length vcap, .int .i64 pl] 45)) wx) => box_cell h
  go_enter Try.func27, Try.ntmps27
  go_wp2_with fail
  refine (rUnpacked_any id p p.size pl _ L _ (ownsRow_below (unhide HSV) ((Below.refl _ _).alloc (Nat.le_refl _) _)) (unhide HG) h8 (unhide HWI)).mono ?_
  rintro e w1 ⟨u, rfl, hu, hb1⟩
  have HB1 : Hid (Below (w.heap.size + 1) (w.alloc (.cells #[.string id, .int .i64 p.size, .slice va L.length vcap, .int .i64 pl] 45)) w1) := hide (hb1.mono (by simp))
  obtain ⟨ua, ucap, rfl, _, _, _⟩ := hu
  have hbw1 := hbox _ (unhide HB1)
  clear hb1
  obtain ⟨N, HNN⟩ : ∃ N, Hid (N = payTo p p.size) := ⟨_, hide rfl⟩
  rw [← unhide HNN]
  obtain ⟨c, HCC⟩ : ∃ c, Hid (c = choiceN L N) := ⟨_, hide rfl⟩
  rw [← unhide HCC]
  obtain ⟨V, HVV⟩ : ∃ V, Hid (V = valsL L N c L.length) := ⟨_, hide rfl⟩
  rw [← unhide HVV]
  obtain ⟨T, HTT⟩ : ∃ T, Hid (T = strOfNums (signsL L c L.length)) := ⟨_, hide rfl⟩
  rw [← unhide HTT]
  have htl : T.size = L.length := by rw [unhide HTT, strOfNums_size]; simp [signsL]
  have hle3 : L.length ≤ T.size := by omega
  clear htl
  have HTA : Hid (∀ j, j < L.length → ∀ h : j < T.size, (T[j].toNat : Int) = signN L c j) := hide (by
    intro j hj h
    have e := unhide HTT
    subst e
    exact signs_at L c h)
  go_wp2_with (at_make; refine wpList_make_full _ rfl _ _ 38 rfl (w.heap.size + 1) 5 i0 (.int .u8 0) 1 Try.underlying38 (unhide HINF) (unhide HZ0) (unhide HZ1) .i64 .i64 (p.size : Int) (p.size : Int) p.size rfl rfl rfl rfl (by rw [unhide HZB]; omega) (by unfold maxLen; omega) (by have := (unhide HB1).size; simp at this; omega) ?_)
  intro w3 hown hgrow
  have HB3 := hide (Below.grown (unhide HB1) hgrow (by have := (unhide HB1).size; simp at this; omega) (by simp))
  obtain ⟨wo, HWO⟩ : ∃ wo : World, Hid (wo = w1) := ⟨_, hide rfl⟩
  rw [← unhide HWO] at hown
  rw [← unhide HWO]
  have HROW : Hid (w3.ownsRow (w.heap.size + 1) 5 1 (.slice (some ⟨wo.heap.size, 0, none⟩) p.size p.size) p.size ((bytesL (bitsTo L V c 0) p.size).map (Value.int .u8))) := hide (by rw [toList_madeCells_one] at hown; rw [bytesL_zero]; exact hown)
  clear hown hgrow hbw1
  have hbw := hbox _ (unhide HB3)
  go_wp2
  clear hbw
  go_loopw [8, 9, 10] (fun i _ _ wr => ∃ k : Nat, k ≤ L.length ∧ i = .int .i64 k ∧ wr.ownsRow (w.heap.size + 1) 5 1 (.slice (some ⟨wo.heap.size, 0, none⟩) p.size p.size) p.size ((bytesL (bitsTo L V c k) p.size).map (Value.int .u8)) ∧ Below (w.heap.size + 1) (w.alloc (.cells #[.string id, .int .i64 p.size, .slice va L.length vcap, .int .i64 pl] 45)) wr) (fun i _ _ _ => L.length - (intOf i).toNat)
  case atStart => exact ⟨0, by omega, rfl, unhide HROW, unhide HB3⟩
  case round =>
    obtain ⟨k, hk, rfl, hrow, hb⟩ := hrel
    have HR := hide hrow
    have HBk := hide hb
    have hbw := hbox _ hb
    clear hrow hb
    by_cases hlt : k < L.length
    · obtain ⟨ok, r0, r1⟩ := (unhide HG).2 k hlt
      have OK := hide ok
      have hi0 : (0 : Int) ≤ (k : Int) := by omega
      have hi1 : (k : Int) < (L.length : Int) := by omega
      have hi4 : (k : Int) < (T.size : Int) := by omega
      have hi5 : k < T.size := by omega
      clear ok
      rcases (unhide HSV).opened with ⟨hnil, _⟩ | ⟨g2, cap2, hv2, hg2, hcap2, hcm2, hc2⟩
      · rw [hnil] at hlt; simp at hlt
      cases hv2
      have HC2 := hide hc2
      clear hc2
      have cn := fun (wx : World) (h : Below (w.heap.size + 1) (w.alloc (.cells #[.string id, .int .i64 p.size, .slice (some ⟨g2, 0, none⟩) L.length vcap, .int .i64 pl] 45)) wx) => rcells7 (k := k) (unhide HC2) hg2 (box_below h) hlt
      have htk := unhide HTA k hlt hi5
      have hl0 := (unhide OK).ln0
      have hl1 := (unhide OK).ln1
      cases hac : activeB (sgAt L k).rl c with
      | false =>
        have HAC := hide hac
        have hte : ((T[k].toNat : Int) == 43) = false := by rw [htk, signN, hac]; rfl
        clear htk hac cn
        go_wp2
        refine wp_loop_rounds 1 ?_
        rw [rounds_succ]
        go_wp2
        go_roundw
        case rel => exact ⟨k + 1, by omega, by go_num, by rw [bits_stay (unhide HAC)]; exact unhide HR, unhide HBk⟩
        case measure => simp [intOf]; omega
      | true =>
        have HAC := hide hac
        have hte : ((T[k].toNat : Int) == 43) = true := by rw [htk, signN, hac]; rfl
        have HZV : Hid (zAt V k = heldV (sgAt L k).st (sgAt L k).ln (sgAt L k).od (sgAt L k).kd N) := hide (by rw [unhide HVV, zAt_vals L N c hlt, valN, hac]; rfl)
        clear htk hac
        go_wp2
        clear hbw
        go_loopw [9, 10] (fun i _ wr => ∃ j : Nat, (j : Int) ≤ (sgAt L k).ln ∧ i = .int .i64 j ∧ wr.ownsRow (w.heap.size + 1) 5 1 (.slice (some ⟨wo.heap.size, 0, none⟩) p.size p.size) p.size ((bytesL (bitsTo L V c k ||| layTo (sgAt L k).st (sgAt L k).ln (sgAt L k).od (zAt V k) j) p.size).map (Value.int .u8)) ∧ Below (w.heap.size + 1) (w.alloc (.cells #[.string id, .int .i64 p.size, .slice (some ⟨g2, 0, none⟩) L.length vcap, .int .i64 pl] 45)) wr) (fun i _ _ => ((sgAt L k).ln - intOf i).toNat)
        case atStart => exact ⟨0, by omega, rfl, by simpa [layTo] using unhide HR, unhide HBk⟩
        case round =>
          obtain ⟨j, hj, rfl, hrow, hb5⟩ := hrel
          have cnw := cn _ hb5
          have hbw := hbox _ hb5
          have HR5 := hide hrow
          have HB5 := hide hb5
          clear hrow hb5
          by_cases hjl : (j : Int) < (sgAt L k).ln
          · go_wp2_with fail
            refine (rBit_any _ (sgAt L k).st (sgAt L k).ln _ _ j (sgAt L k).od (sgAt L k).kd _ (unhide OK).st0 (unhide OK).st1 (unhide OK).ln0 (unhide OK).ln1 (unhide OK).od (by omega) hjl).mono ?_
            rintro e w6 ⟨rfl, hb6⟩
            have hp0 := place_lo (sgAt L k).st (sgAt L k).ln (sgAt L k).od j (unhide OK).st0 (by omega) hjl
            have hp1 := unhide HWI k hlt j hjl
            obtain ⟨q, hq⟩ : ∃ q : Nat, place (sgAt L k).st (sgAt L k).ln (sgAt L k).od j = (q : Int) := ⟨(place (sgAt L k).st (sgAt L k).ln (sgAt L k).od j).toNat, (Int.toNat_of_nonneg hp0).symm⟩
            have hqn : (place (sgAt L k).st (sgAt L k).ln (sgAt L k).od j).toNat = q := by omega
            have hq8 : q < 8 * p.size := by omega
            have HQ := hide hq
            have HB6 := hide (box_next (unhide HB5) hb6)
            have HR6 := hide (ownsRow_bel (unhide HR5) hb6)
            have hbv : bitv (zAt V k) j = bitN N q := by rw [unhide HZV, held_bit hl0 hl1 hjl, hqn]
            have hlo : bitv (zAt V k) j = 1 → layTo (sgAt L k).st (sgAt L k).ln (sgAt L k).od (zAt V k) (j + 1) = layTo (sgAt L k).st (sgAt L k).ln (sgAt L k).od (zAt V k) j ||| 2 ^ q := fun h => by rw [layTo_one h, hqn]
            have HLO := hide hlo
            have HBV := hide hbv
            rw [hq]
            clear hb6 cnw hbw hqn hq hp0 hp1 hbv hlo
            go_wp2_with fail
            refine (rGet_any p q _ h8 hq8).mono ?_
            rintro e w7 ⟨rfl, hw7⟩
            subst hw7
            rw [← unhide HNN]
            have hbl := bitN_lt N q
            by_cases hb1 : bitN N q = 1
            · have HLAY := hide (unhide HLO (by rw [unhide HBV]; exact hb1))
              rw [hb1]
              clear hbl hb1
              go_wp2_with fail
              refine (rPut_any (w.heap.size + 1) _ _ p.size _ q _ (unhide HR6) hq8 (by omega)).mono ?_
              rintro e w8 ⟨rfl, hrow8, hgr8⟩
              have HB8 := hide (Below.grown (unhide HB6) hgr8 (by have := (unhide HB6).size; simp at this; omega) (fun q hq => by cases hq; exact ((unhide HR6).lt _ rfl).1))
              have HR8 := hide hrow8
              clear hrow8 hgr8
              go_wp2
              go_roundw
              case rel =>
                refine ⟨j + 1, by omega, by go_num, ?_, unhide HB8⟩
                rw [unhide HLAY, ← Nat.or_assoc]
                exact unhide HR8
              case measure => simp [intOf]; omega
            · have HLAY := hide (layTo_zero (st := (sgAt L k).st) (ln := (sgAt L k).ln) (od := (sgAt L k).od) (show bitv (zAt V k) j = 0 by rw [unhide HBV]; omega))
              rw [show bitN N q = 0 by omega]
              clear hbl hb1
              go_wp2
              go_roundw
              case rel =>
                refine ⟨j + 1, by omega, by go_num, ?_, unhide HB6⟩
                rw [unhide HLAY]
                exact unhide HR6
              case measure => simp [intOf]; omega
          · have hjn : (sgAt L k).ln.toNat = j := by omega
            have HJ := hide hjn
            clear hjn
            go_wp2
            go_roundw
            case rel =>
              refine ⟨k + 1, by omega, by go_num, ?_, unhide HB5⟩
              have h7 := unhide HR5
              have e7 : bitsTo L V c (k + 1) = bitsTo L V c k ||| layTo (sgAt L k).st (sgAt L k).ln (sgAt L k).od (zAt V k) j := by
                rw [bitsTo, if_pos (unhide HAC), unhide HJ]; rfl
              rw [e7]
              exact h7
            case measure => simp [intOf]; omega
    · have hkn : k = L.length := by omega
      have hconv := conv_row (unhide HR)
      have HK := hide hkn
      have hfin : payB (bitsTo L (valsL L (payTo p p.size) (choiceN L (payTo p p.size)) L.length) (choiceN L (payTo p p.size)) L.length) p.size = strOfNums (bytesL (bitsTo L V c k) p.size) := by
        rw [payB, unhide HK, unhide HVV, unhide HCC, unhide HNN]
      have HFIN := hide hfin
      clear hkn hfin
      go_wp2
      go_ret
      exact ⟨by rw [unhide HFIN]; rfl, box_below (unhide HBk)⟩

end Go.Proofs.Ytoihlnjcgopdlaa

namespace Go.Proofs.Ytoihlnjcgopdlaa
open Go.RowKit

set_option maxRecDepth 100000 in
set_option maxHeartbeats 2000000 in
theorem Forth_any (s id p : ByteArray) (w : World) (hs : s.size ≤ maxLen) (hid : id.size ≤ maxLen) :
    Calls Try.prog 7 #[.string s, .string id, .string p] w fun e w' => e = .returned (.bool true) ∧ Below w.heap.size w w' := by
  go_enter Try.func7, Try.ntmps7
  go_wp2_with fail
  refine (Unpack_any s id p _ hs hid).mono ?_
  rintro e w1 ⟨⟨u, rfl, hu⟩, hb1⟩
  have HU := hide hu
  have HB1 := hide hb1
  obtain ⟨ua, ucap, rfl, _, hu2, hu3⟩ := hu
  clear hu2 hu3 hb1
  go_wp2_with fail
  refine (rCheck_any s _ hs).mono ?_
  rintro e w2 ⟨rfl, hb2⟩
  have HB2 := hide ((unhide HB1).trans (hb2.mono (unhide HB1).size))
  have HBU := hide hb2
  clear hb2
  by_cases hpe : (up s id p).2.2.1 = 0
  case neg =>
    have hne : ((up s id p).2.2.1 != 0) = true := by simpa using hpe
    clear hpe HU
    generalize (up s id p).2.2.1 = x2 at *
    go_wp2_with (go_at_call 17; refine (num_any _ _).mono ?_; rintro e w' ⟨rfl, rfl⟩)
    go_ret
    exact ⟨rfl, unhide HB2⟩
  obtain ⟨hzc, hl320, h8, M, k, hpd, hk, hix, hsz, hvv⟩ := up_ok hpe
  obtain ⟨ok, hg⟩ := good_of hpd hk
  have hwi := sound_within hzc hpd hk
  have hpk := pk_forth (N := payTo p p.size) hzc hpd hk hix
  rw [← hsz] at hwi hpk
  rw [← hvv, Int.toNat_natCast] at hpk
  rw [hpe, hzc]
  have HPD := hide hpd
  have HIX := hide hix
  have HPK := hide hpk
  have HG := hide hg
  have HWI := hide hwi
  have HVV := hide hvv
  have HSZ := hide hsz
  have hlen8 := ok.len
  have H320 := hide hl320
  have H8 := hide h8
  clear hpe hzc hpd hix hpk hg hwi hvv hsz ok hl320 hk h8
  go_wp2_with (go_at_call 17; refine (num_any _ _).mono ?_; rintro e w' ⟨rfl, rfl⟩)
  refine (rFind_any s id M _ (by have := unhide H320; omega) (unhide HPD)).mono ?_
  rintro e w4 ⟨hout, hb4⟩
  have HB4 := hide ((unhide HB2).trans (hb4.mono (unhide HB2).size))
  have HBU4 := hide ((unhide HBU).trans (hb4.mono (unhide HBU).size))
  clear hb4
  rcases hout with ⟨hix', rfl⟩ | ⟨k', sv, hk', hix', rfl, hsv⟩
  · have := unhide HIX; omega
  obtain rfl : k' = k := by have := unhide HIX; omega
  obtain ⟨m, hm⟩ : ∃ m, m = mAt M k' := ⟨_, rfl⟩
  rw [← hm] at hsv HG HPK HVV HWI HSZ hlen8
  rw [← hm]
  have HSV := hide hsv
  obtain ⟨va, vcap, rfl⟩ := ownsRow_form hsv
  rw [← unhide HSZ]
  clear hsv hix' hk' hm
  have hbox := fun (wx : World) (h : Below (w4.heap.size + 1) (w4.alloc (.cells #[.string m.id, .int .i64 p.size, .slice va m.sigs.length vcap, .int .i64 m.pl] 45)) wx) => box_cell h
  have HB5 : Hid (Below (w4.heap.size + 1) (w4.alloc (.cells #[.string m.id, .int .i64 p.size, .slice va m.sigs.length vcap, .int .i64 m.pl] 45)) (w4.alloc (.cells #[.string m.id, .int .i64 p.size, .slice va m.sigs.length vcap, .int .i64 m.pl] 45))) := hide (Below.refl _ _)
  have hpp : ((p.size : Int) != (p.size : Int)) = false := by simp
  go_wp2_with fail
  refine (Pack_any s id _ (up s id p).1 _ hs hid ((unhide HU).below ((unhide HBU4).trans ((box_below (unhide HB5)).mono (unhide HBU4).size)))).mono ?_
  rintro e w6 ⟨rfl, hb6⟩
  have HB6 := hide (box_next (unhide HB5) hb6)
  have hbw6 := hbox _ (unhide HB6)
  clear hb6
  have hpk := pk_eta _ (unhide HPK)
  rw [hpk.1, hpk.2.1, hpk.2.2]
  rw [unhide HVV]
  clear hpk
  go_wp2_with fail
  refine (rOwned_any m.id p m.pl _ m.sigs _ (ownsRow_below (unhide HSV) (box_below (unhide HB6))) (unhide HG) (by have := unhide H8; omega) (unhide HWI)).mono ?_
  rintro e w7 ⟨rfl, hb7⟩
  have HB7 := hide (box_next (unhide HB6) hb7)
  clear hb7 hbw6
  generalize payB _ p.size = x1
  go_wp2_with (go_at_call 17; refine (num_any _ _).mono ?_; rintro e w' ⟨rfl, rfl⟩)
  go_ret
  exact ⟨rfl, (unhide HB4).trans ((box_below (unhide HB7)).mono (unhide HB4).size)⟩

end Go.Proofs.Ytoihlnjcgopdlaa
