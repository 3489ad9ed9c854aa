import Derived.Test.YtljodhcfimklkaaY1
namespace Go.Proofs.Ytljodhcfimklkaa
open Go.RowKit

theorem bitN_test (N q : Nat) : bitN N q = if N.testBit q then 1 else 0 := by
  rw [bitN, Nat.testBit_eq_decide_div_mod_eq]
  have : N / 2 ^ q % 2 < 2 := Nat.mod_lt _ (by omega)
  by_cases h : N / 2 ^ q % 2 = 1
  · simp [h]
  · simp [h]; omega

theorem byte_test (p : ByteArray) (k i : Nat) (h : 8 ≤ i) : ((bt p k).toNat).testBit i = false := by
  have h1 := bt_lo p k
  have h2 := bt_hi p k
  apply Nat.testBit_lt_two_pow
  have e : (256 : Nat) = 2 ^ 8 := rfl
  have : 2 ^ 8 ≤ 2 ^ i := Nat.pow_le_pow_right (by omega) h
  omega

theorem payTo_test (p : ByteArray) (n b : Nat) : (payTo p n).testBit b = (decide (b / 8 < n) && ((bt p (b / 8)).toNat).testBit (b % 8)) := by
  induction n with
  | zero => simp [payTo]
  | succ n ih =>
    rw [payTo, Nat.testBit_or, ih, Nat.testBit_mul_two_pow]
    by_cases h : b / 8 = n
    · have e1 : b - 8 * n = b % 8 := by omega
      have e2 : 8 * n ≤ b := by omega
      simp [h, e1, e2]
    · by_cases h2 : b / 8 < n
      · have e2 : ¬ 8 * n ≤ b := by omega
        have e3 : b / 8 < n + 1 := by omega
        simp [h2, e2, e3]
      · have e3 : ¬ b / 8 < n + 1 := by omega
        have e4 : 8 ≤ b - 8 * n := by omega
        simp [h2, e3, byte_test p n _ e4]

theorem payTo_bit (p : ByteArray) (n b : Nat) (h : b / 8 < n) : bitN (payTo p n) b = (bt p (b / 8)).toNat / 2 ^ (b % 8) % 2 := by
  have e : (bt p (b / 8)).toNat / 2 ^ (b % 8) % 2 = bitN (bt p (b / 8)).toNat (b % 8) := rfl
  rw [e, bitN_test, bitN_test, payTo_test]
  simp [h]

theorem get_val (p : ByteArray) (b : Nat) (hq : b / 8 < p.size) : bits BinOp.and IntKind.i64 (wrap64 ((p[b / 8].toNat : Int) / 2 ^ (b % 8))) 1 = (bitN (payTo p p.size) b : Int) := by
  rw [payTo_bit p p.size b hq]
  have e0 := bt_of hq
  have h1 := bt_lo p (b / 8)
  have h2 := bt_hi p (b / 8)
  have hlt := (p[b / 8]).toNat_lt
  have e2 : (bt p (b / 8)).toNat = p[b / 8].toNat := by omega
  rw [e2]
  have e1 : ((p[b / 8].toNat : Int) / 2 ^ (b % 8)) = ((p[b / 8].toNat / 2 ^ (b % 8) : Nat) : Int) := by simp
  have hle : p[b / 8].toNat / 2 ^ (b % 8) ≤ p[b / 8].toNat := Nat.div_le_self _ _
  rw [e1]
  generalize p[b / 8].toNat / 2 ^ (b % 8) = y at *
  have e3 : wrap64 (y : Int) = (y : Int) := by simp only [wrap64]; omega
  rw [e3, and_one_i64 _ (by omega) (by omega)]
  omega

set_option maxRecDepth 100000 in
set_option maxHeartbeats 400000 in
theorem rGet_any (p : ByteArray) (b : Nat) (w : World) (h8 : p.size ≤ 8) (hb : b < 8 * p.size) :
    Calls Try.prog 52 #[.string p, .int .i64 b] w fun e w' => e = .returned (.int .i64 (bitN (payTo p p.size) b)) ∧ w' = w := by
  have hq : b / 8 < p.size := by omega
  have h3 : (0 : Int) ≤ (b : Int) / 8 := by omega
  have h4 : (b : Int) / 8 < (p.size : Int) := by omega
  have hx := payTo_bit p p.size b hq
  have HX := hide hx
  have hm0 : (0 : Int) ≤ (b : Int) % 8 := by omega
  have hm1 : (b : Int) % 8 < 8 := by omega
  clear hx
  go_enter Try.func52, Try.ntmps52
  go_wp2
  go_ret
  exact ⟨ret_int (get_val p b hq), rfl⟩

theorem heldV_top (st ln od kd : Int) (N : Nat) (h0 : 1 ≤ ln) : heldV st ln od kd N = if kd = 115 then (heldTo st ln od N ln.toNat : Int) - (bitN N (place st ln od (ln - 1)).toNat : Int) * (2 * half ln) else (heldTo st ln od N ln.toNat : Int) := by
  obtain ⟨n, hn⟩ : ∃ n : Nat, ln = (n : Int) + 1 := ⟨(ln - 1).toNat, by omega⟩
  have h1 : ln.toNat = n + 1 := by omega
  have h2 : ln - 1 = (n : Int) := by omega
  have hlt := heldTo_lt st ln od N n
  have hb := bitN_lt N (place st ln od n).toNat
  have hh : half ln = ((2 ^ n : Nat) : Int) := by unfold half; rw [h1]; simp
  unfold heldV
  rw [h1, h2, heldTo, hh]
  generalize 2 ^ n = y at *
  generalize heldTo st ln od N n = x at *
  by_cases hk : kd = 115
  · rw [if_pos hk]
    obtain h | h : bitN N (place st ln od n).toNat = 0 ∨ bitN N (place st ln od n).toNat = 1 := by omega
    · rw [h, if_neg (by intro h'; have := h'.2; simp at this; omega)]; simp
    · rw [h, if_pos ⟨hk, by simp; omega⟩]; simp
  · rw [if_neg hk, if_neg (fun h => hk h.1)]

theorem top_step (x b : Nat) (hh : Int) (hb : b < 2) (hx : (x : Int) < 2 * hh) (h1 : 1 ≤ hh) (h2 : hh ≤ 2147483648) : wrap64 ((x : Int) - wrap64 ((b : Int) * (2 * hh))) = (x : Int) - (b : Int) * (2 * hh) := by
  obtain rfl | rfl : b = 0 ∨ b = 1 := by omega
  · simp only [wrap64]; omega
  · simp only [wrap64]; omega

set_option maxRecDepth 100000 in
set_option maxHeartbeats 1000000 in
theorem rHolds_any (a0 st ln od kd a5 a6 : Int) (p : ByteArray) (w : World) (h0 : 0 ≤ st) (h1 : st ≤ 63) (h2 : 1 ≤ ln) (h3 : ln ≤ 32) (h4 : od = 60 ∨ od = 62) (h8 : p.size ≤ 8) (hp : ∀ i : Nat, (i : Int) < ln → place st ln od i < 8 * (p.size : Int)) :
    Calls Try.prog 77 #[.agg #[.int .u8 a0, .int .i64 st, .int .i64 ln, .bool (decide (od = 62)), .bool (decide (kd = 115)), .int .u8 a5, .int .i64 a6], .string p] w
      fun e w' => e = .returned (.int .i64 (heldV st ln od kd (payTo p p.size))) ∧ Below w.heap.size w w' := by
  have H4 := hide h4
  have HP := hide hp
  clear h4 hp
  obtain ⟨N, HNN⟩ : ∃ N, Hid (N = payTo p p.size) := ⟨_, hide rfl⟩
  rw [← unhide HNN]
  obtain ⟨x1, X1⟩ : ∃ x, Hid (x = decide (od = 62)) := ⟨_, hide rfl⟩
  obtain ⟨x2, X2⟩ : ∃ x, Hid (x = decide (kd = 115)) := ⟨_, hide rfl⟩
  rw [← unhide X1, ← unhide X2]
  have hpw := pow_half ln h2
  have hhp := half_pos ln
  have hhu := half_le ln h3
  obtain ⟨hh, HH⟩ : ∃ x, Hid (x = half ln) := ⟨_, hide rfl⟩
  have HPW := hide hpw
  rw [← unhide HH] at hpw hhp hhu
  have HV := hide (heldV_top st ln od kd N h2)
  rw [← unhide HH] at HV
  go_enter Try.func77, Try.ntmps77
  go_wp2
  go_loopw [5, 6, 7, 8] (fun v i _ _ wr => ∃ k : Nat, (k : Int) ≤ ln ∧ i = .int .i64 k ∧ ((k : Int) < ln → v = .int .i64 (heldTo st ln od N k)) ∧ ((k : Int) = ln → v = .int .i64 (heldV st ln od kd N)) ∧ Below (w.heap.size + 1) (w.alloc (.cells #[.int .u8 a0, .int .i64 st, .int .i64 ln, .bool x1, .bool x2, .int .u8 a5, .int .i64 a6] 71)) wr) (fun _ i _ _ _ => (ln - intOf i).toNat)
  case atStart => exact ⟨0, by omega, rfl, fun _ => rfl, fun h => by omega, Below.refl _ _⟩
  case round =>
    obtain ⟨k, hk, rfl, hv1, hv2, hb⟩ := hrel
    have HB := hide hb
    have hc := box_cell hb
    clear hb
    by_cases hlt : (k : Int) < ln
    · have hv := hv1 hlt
      subst hv
      clear hv1 hv2
      obtain ⟨bq, HBQ⟩ : ∃ b : Nat, Hid (b = bitN N (place st ln od k).toNat) := ⟨_, hide rfl⟩
      have hbl : bq < 2 := by rw [unhide HBQ]; exact bitN_lt _ _
      have hp0 := place_lo st ln od k h0 (by omega) hlt
      have hp1 := unhide HP k hlt
      have HPN := hide (Int.toNat_of_nonneg hp0).symm
      have HST := hide (held_step st ln od N k (by omega) bq (unhide HBQ))
      go_wp2_with fail
      rw [unhide X1, unhide X2]
      refine (rBit_any a0 st ln a5 a6 k od kd wr h0 h1 h2 h3 (unhide H4) (by omega) hlt).mono ?_
      rintro e w' ⟨rfl, hb'⟩
      rw [← unhide X1, ← unhide X2]
      have HB' := hide (box_next (unhide HB) hb')
      clear hb' hc
      have hc := box_cell (unhide HB')
      go_wp2_with fail
      rw [unhide HPN]
      refine (rGet_any p (place st ln od k).toNat _ h8 (by omega)).mono ?_
      rintro e w2 ⟨rfl, rfl⟩
      rw [← unhide HNN, ← unhide HBQ]
      have hx2 : x2 = false ∨ (x2 = true ∧ (k : Int) + 1 < ln) ∨ (x2 = true ∧ (k : Int) + 1 = ln) := by
        cases x2
        · exact .inl rfl
        · by_cases h : (k : Int) + 1 < ln
          · exact .inr (.inl ⟨rfl, h⟩)
          · exact .inr (.inr ⟨rfl, by omega⟩)
      rcases hx2 with rfl | ⟨rfl, hlt2⟩ | ⟨rfl, hlt2⟩
      · go_wp2
        go_roundw
        case rel =>
          refine ⟨k + 1, by omega, by go_num, fun _ => by rw [unhide HST], fun h => ?_, unhide HB'⟩
          have e : ln.toNat = k + 1 := by omega
          have hkd : ¬ kd = 115 := by have := unhide X2; simpa using this.symm
          rw [unhide HST, unhide HV, if_neg hkd, e]
        case measure => simp [intOf]; omega
      · have hne : ((k : Int) == ln - 1) = false := by rw [beq_eq_false_iff_ne]; omega
        go_wp2
        go_roundw
        case rel => exact ⟨k + 1, by omega, by go_num, fun _ => by rw [unhide HST], fun h => by omega, unhide HB'⟩
        case measure => simp [intOf]; omega
      · have hne : ((k : Int) == ln - 1) = true := by rw [beq_iff_eq]; omega
        have hub := heldTo_lt st ln od N (k + 1)
        have hub2 : (heldTo st ln od N (k + 1) : Int) < 2 * hh := by
          rw [← hpw, show ln.toNat = k + 1 by omega]
          have e : ((2 : Int) ^ (k + 1)) = ((2 ^ (k + 1) : Nat) : Int) := by simp
          rw [e]; omega
        have HTS := hide (top_step (heldTo st ln od N (k + 1)) bq hh hbl hub2 hhp hhu)
        have HL2 := hide hlt2
        clear hlt2 hub hub2
        go_wp2
        go_roundw
        case rel =>
          refine ⟨k + 1, by have := unhide HL2; omega, by go_num, fun h => by have := unhide HL2; omega, fun h => ?_, unhide HB'⟩
          have e : ln.toNat = k + 1 := by omega
          have e2 : ln - 1 = (k : Int) := by omega
          have hkd : kd = 115 := by have := unhide X2; simpa using this.symm
          rw [unhide HST, unhide HTS, unhide HV, if_pos hkd, e, e2, ← unhide HBQ]
        case measure => have := unhide HL2; simp [intOf]; omega
    · have hv := hv2 (by omega)
      subst hv
      clear hv1 hv2
      go_wp2
      go_ret
      exact ⟨rfl, box_below (unhide HB)⟩

end Go.Proofs.Ytljodhcfimklkaa
