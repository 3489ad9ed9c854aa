import Derived.Test.YtljodhcfimklkabS5
import Derived.Test.YtljodhcfimklkabV0
namespace Go.Proofs.Ytljodhcfimklkab
open Go.RowKit


set_option maxHeartbeats 400000 in
theorem isActive_any (a0 a1 st ln od a5 rl c : Int) (w : World) (h0 : 0 ≤ rl) (h1 : rl ≤ 255) :
    Calls Try.prog 28 #[.agg #[.int .i64 a0, .int .u8 a1, .int .i64 st, .int .i64 ln, .int .u8 od, .int .u8 a5, .int .u8 rl], .int .i64 c] w
      fun e w' => e = .returned (.bool (activeB rl c)) ∧ Below w.heap.size w w' := by
  cases hd : isDigB rl with
  | false =>
    have HA := hide (show activeB rl c = true by rw [activeB, hd]; rfl)
    go_enter Try.func28, Try.ntmps28
    go_wp2_with (go_at_call 45; refine (isDigit_any _ _).mono ?_; rintro e w' ⟨rfl, rfl⟩)
    go_ret
    exact ⟨ret_bool (by rw [unhide HA]), (Below.refl _ _).alloc (Nat.le_refl _) _⟩
  | true =>
    have HW := hide (show (worth rl == c) = activeB rl c by
      simp [isDigB] at hd
      rw [activeB, dig_worth hd.1 hd.2, show isDigB rl = true by simp [isDigB]; omega, beq_dec]; rfl)
    go_enter Try.func28, Try.ntmps28
    go_wp2_with (first | (go_at_call 45; refine (isDigit_any _ _).mono ?_; rintro e w' ⟨rfl, rfl⟩) | (go_at_call 44; refine (digitWorth_any _ _ h0 h1).mono ?_; rintro e w' ⟨rfl, rfl⟩))
    go_ret
    exact ⟨ret_bool (by rw [unhide HW]), (Below.refl _ _).alloc (Nat.le_refl _) _⟩

set_option maxHeartbeats 400000 in
theorem inRange_any (v ln : Int) (sg : Bool) (w : World) (h0 : 1 ≤ ln) (h1 : ln ≤ 32) :
    Calls Try.prog 36 #[.int .i64 v, .int .i64 ln, .bool sg] w fun e w' => e = .returned (.bool (fitsB (if sg then 115 else 117) ln v)) ∧ w = w' := by
  have hp := pow_half ln h0
  have hl := half_pos ln
  have hu := half_le ln h1
  cases sg
  · simp only [Bool.false_eq_true, if_false]
    have HF := hide (show fitsB 117 ln v = (decide (0 ≤ v) && decide (v < 2 * half ln)) by simp [fitsB])
    obtain ⟨hh, HH⟩ : ∃ x, Hid (x = half ln) := ⟨_, hide rfl⟩
    rw [← unhide HH] at hp hl hu
    go_enter Try.func36, Try.ntmps36
    go_wp2
    all_goals (go_ret; exact ⟨ret_bool (by rw [unhide HF, ← unhide HH, Bool.eq_iff_iff]; simp; try omega), rfl⟩)
  · simp only [if_true]
    have HF := hide (show fitsB 115 ln v = (decide (-(half ln) ≤ v) && decide (v < half ln)) by simp [fitsB])
    obtain ⟨hh, HH⟩ : ∃ x, Hid (x = half ln) := ⟨_, hide rfl⟩
    rw [← unhide HH] at hp hl hu
    go_enter Try.func36, Try.ntmps36
    go_wp2
    all_goals (go_ret; exact ⟨ret_bool (by rw [unhide HF, ← unhide HH, Bool.eq_iff_iff]; simp; try omega), rfl⟩)

set_option maxHeartbeats 400000 in
theorem extended_any (v ln : Int) (w : World) (h0 : 1 ≤ ln) (h1 : ln ≤ 32) :
    Calls Try.prog 35 #[.int .i64 v, .int .i64 ln] w fun e w' => e = .returned (.int .i64 (extV v ln)) ∧ w = w' := by
  have hp := pow_half ln h0
  have hl := half_pos ln
  have hu := half_le ln h1
  have hand := and_mask v ln.toNat (by omega)
  rw [hp] at hand
  have hm0 : 0 ≤ v % (2 * half ln) := Int.emod_nonneg _ (by omega)
  have hm1 : v % (2 * half ln) < 2 * half ln := Int.emod_lt_of_pos _ (by omega)
  have HF := hide (show extV v ln = if half ln ≤ v % (2 * half ln) then v % (2 * half ln) - 2 * half ln else v % (2 * half ln) from rfl)
  obtain ⟨hh, HH⟩ : ∃ x, Hid (x = half ln) := ⟨_, hide rfl⟩
  rw [← unhide HH] at hp hl hu hand hm0 hm1 HF
  generalize v % (2 * hh) = y at *
  by_cases hge : hh ≤ y
  · go_enter Try.func35, Try.ntmps35
    go_wp2
    go_ret
    exact ⟨ret_int (by rw [unhide HF, if_pos hge]), rfl⟩
  · go_enter Try.func35, Try.ntmps35
    go_wp2
    go_ret
    exact ⟨ret_int (by rw [unhide HF, if_neg (by omega)]), rfl⟩

set_option maxHeartbeats 400000 in
theorem fits_any (a0 a1 st ln od kd rl v : Int) (w : World) (h0 : 1 ≤ ln) (h1 : ln ≤ 32) (h2 : kd = 117 ∨ kd = 115) :
    Calls Try.prog 29 #[.agg #[.int .i64 a0, .int .u8 a1, .int .i64 st, .int .i64 ln, .int .u8 od, .int .u8 kd, .int .u8 rl], .int .i64 v] w
      fun e w' => e = .returned (.bool (fitsB kd ln v)) ∧ Below w.heap.size w w' := by
  rcases h2 with rfl | rfl
  · go_enter Try.func29, Try.ntmps29
    go_wp2_with (go_at_call 36; refine (inRange_any v ln _ _ h0 h1).mono ?_; rintro e w' ⟨rfl, rfl⟩)
    go_ret
    exact ⟨rfl, (Below.refl _ _).alloc (Nat.le_refl _) _⟩
  · go_enter Try.func29, Try.ntmps29
    go_wp2_with (go_at_call 36; refine (inRange_any v ln _ _ h0 h1).mono ?_; rintro e w' ⟨rfl, rfl⟩)
    go_ret
    exact ⟨rfl, (Below.refl _ _).alloc (Nat.le_refl _) _⟩

set_option maxHeartbeats 400000 in
theorem rFits_any (v ln kd : Int) (w : World) (h0 : 1 ≤ ln) (h1 : ln ≤ 32) (h2 : kd = 117 ∨ kd = 115) :
    Calls Try.prog 22 #[.int .i64 v, .int .i64 ln, .bool (decide (kd = 115))] w fun e w' => e = .returned (.bool (fitsB kd ln v)) ∧ w' = w := by
  have hp := pow_half ln h0
  have hp2 := pow_half2 ln
  have hl := half_pos ln
  have hu := half_le ln h1
  rcases h2 with rfl | rfl
  · have HF := hide (show fitsB 117 ln v = (decide (0 ≤ v) && decide (v < 2 * half ln)) by simp [fitsB])
    obtain ⟨hh, HH⟩ : ∃ x, Hid (x = half ln) := ⟨_, hide rfl⟩
    rw [← unhide HH] at hp hl hu hp2
    rw [show decide ((117 : Int) = 115) = false from rfl]
    go_enter Try.func22, Try.ntmps22
    go_wp2
    all_goals (go_ret; exact ⟨ret_bool (by rw [unhide HF, ← unhide HH, Bool.eq_iff_iff]; simp; try omega), rfl⟩)
  · have HF := hide (show fitsB 115 ln v = (decide (-(half ln) ≤ v) && decide (v < half ln)) by simp [fitsB])
    obtain ⟨hh, HH⟩ : ∃ x, Hid (x = half ln) := ⟨_, hide rfl⟩
    rw [← unhide HH] at hp hl hu hp2
    rw [show decide ((115 : Int) = 115) = true from rfl]
    go_enter Try.func22, Try.ntmps22
    go_wp2
    all_goals (go_ret; exact ⟨ret_bool (by rw [unhide HF, ← unhide HH, Bool.eq_iff_iff]; simp; try omega), rfl⟩)

set_option maxHeartbeats 400000 in
theorem rActive_any (id : ByteArray) (sz pl : Int) (v : Value) (L : List Sg) (i : Nat) (c : Int) (w : World) (h : RSigsAt w v L) (hl : L.length ≤ 8) (hi : i < L.length) (hr0 : 0 ≤ (sgAt L i).rl) (hr1 : (sgAt L i).rl ≤ 255) :
    Calls Try.prog 21 #[.agg #[.string id, .int .i64 sz, v, .int .i64 pl], .int .i64 i, .int .i64 c] w fun e w' => e = .returned (.bool (activeB (sgAt L i).rl c)) ∧ Below w.heap.size w w' := by
  rcases h.opened with ⟨rfl, a, cc, rfl⟩ | ⟨g, cap, rfl, hg, hcap, _, hc⟩
  · simp at hi
  have hc5 : ∀ o : Obj, (w.alloc o).cell? ⟨g, i * 7 + 5, none⟩ = some (.int .u8 (sgAt L i).rl) := fun o => by rw [alloc_cell hg]; exact hc i 5 hi (by omega)
  clear hc
  cases hd : isDigB (sgAt L i).rl with
  | false =>
    have HA := hide (show activeB (sgAt L i).rl c = true by rw [activeB, hd]; rfl)
    go_enter Try.func21, Try.ntmps21
    go_wp2_with (go_at_call 40; refine (rIsDigit_any _ _).mono ?_; rintro e w' ⟨rfl, rfl⟩)
    go_ret
    exact ⟨ret_bool (by rw [unhide HA]), (Below.refl _ _).alloc (Nat.le_refl _) _⟩
  | true =>
    have hd2 := hd
    simp [isDigB] at hd2
    obtain ⟨hd3, hd4⟩ := hd2
    have HW := hide (show (c == (sgAt L i).rl - 48) = activeB (sgAt L i).rl c by
      rw [activeB, hd, Bool.eq_iff_iff]; simp; omega)
    go_enter Try.func21, Try.ntmps21
    go_wp2_with (go_at_call 40; refine (rIsDigit_any _ _).mono ?_; rintro e w' ⟨rfl, rfl⟩)
    go_ret
    exact ⟨ret_bool (by rw [← unhide HW]), (Below.refl _ _).alloc (Nat.le_refl _) _⟩

end Go.Proofs.Ytljodhcfimklkab
