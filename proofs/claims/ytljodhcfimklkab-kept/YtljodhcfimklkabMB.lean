import Derived.Test.YtljodhcfimklkabM1
import Derived.Laws.Bits64b
namespace Go.Proofs.Ytljodhcfimklkab
open Go.RowKit

theorem andNot_u64_nat (a b : Nat) (ha : a < 18446744073709551616) :
    ∃ c : Nat, bits BinOp.andNot IntKind.u64 (a : Int) (b : Int) = (c : Int) ∧ c < 18446744073709551616 ∧ ∀ i, c.testBit i = (a.testBit i && !b.testBit i) := by
  refine ⟨(BitVec.ofNat 64 a &&& ~~~ BitVec.ofNat 64 b).toNat, ?_, (BitVec.ofNat 64 a &&& ~~~ BitVec.ofNat 64 b).isLt, fun i => ?_⟩
  · show IntKind.u64.wrap ((BitVec.ofInt 64 (a : Int) &&& ~~~ BitVec.ofInt 64 (b : Int)).toNat : Int) = _
    rw [BitVec.ofInt_natCast, BitVec.ofInt_natCast, IntKind.wrap_u64]
    have := (BitVec.ofNat 64 a &&& ~~~ BitVec.ofNat 64 b).isLt
    omega
  · rw [BitVec.testBit_toNat, BitVec.getLsbD_and, BitVec.getLsbD_not, BitVec.getLsbD_ofNat, BitVec.getLsbD_ofNat]
    by_cases h : i < 64
    · simp [h]
    · have : a.testBit i = false := Nat.testBit_lt_two_pow (Nat.lt_of_lt_of_le ha (by
        rw [show (18446744073709551616 : Nat) = 2 ^ 64 from rfl]; exact Nat.pow_le_pow_right (by omega) (by omega)))
      simp [h, this]
theorem ones_lt {b n x : Nat} (h : b + n ≤ 64) (hx : x < 2 ^ n) : x * 2 ^ b < 18446744073709551616 := by
  rw [show (18446744073709551616 : Nat) = 2 ^ 64 from rfl]
  refine Nat.lt_of_lt_of_le (Nat.mul_lt_mul_of_pos_right hx (Nat.two_pow_pos b)) ?_
  rw [← Nat.pow_add]; exact Nat.pow_le_pow_right (by omega) (by omega)
theorem test_mul (x b i : Nat) : (x * 2 ^ b).testBit i = (decide (b ≤ i) && x.testBit (i - b)) := by
  rw [← Nat.shiftLeft_eq, Nat.testBit_shiftLeft]

theorem putTo_bits {N X b k n : Nat} (hN : N < 18446744073709551616) (hbn : b + n ≤ 64) :
    bits BinOp.or IntKind.u64 (bits BinOp.andNot IntKind.u64 (N : Int) (((2 ^ n - 1) * 2 ^ b : Nat) : Int)) (((X / 2 ^ k % 2 ^ n) * 2 ^ b : Nat) : Int) = ((putTo N X b k n : Nat) : Int) := by
  obtain ⟨c, hc, hl, ht⟩ := andNot_u64_nat N ((2 ^ n - 1) * 2 ^ b) hN
  rw [hc, bits_or_u64_nat _ _ hl (ones_lt hbn (Nat.mod_lt _ (Nat.two_pow_pos n)))]
  congr 1
  apply Nat.eq_of_testBit_eq
  intro i
  rw [Nat.testBit_or, ht, test_mul, test_mul, putTo_test, Nat.testBit_two_pow_sub_one, Nat.testBit_mod_two_pow, Nat.testBit_div_two_pow]
  by_cases h : b ≤ i ∧ i < b + n
  · have h1 : b ≤ i := h.1
    have h2 : i - b < n := by omega
    rw [if_pos h]
    simp [h1, h2, Nat.add_comm]
  · rw [if_neg h]
    by_cases h1 : b ≤ i
    · have h2 : ¬ i - b < n := by omega
      simp [h1, h2]
    · simp [h1]

/-- Only so many bits of what is laid count. -/
theorem putTo_congr {N X Y b k n : Nat} (h : ∀ j, j < k + n → X.testBit j = Y.testBit j) : putTo N X b k n = putTo N Y b k n := by
  induction n with
  | zero => rfl
  | succ n ih => rw [putTo, putTo, ih (fun j hj => h j (by omega)), h (k + n) (by omega)]

/-- What a register is as a uint64. -/
def wide (v : Int) : Nat := (v % 18446744073709551616).toNat
theorem wide_lt (v : Int) : wide v < 18446744073709551616 := by unfold wide; omega
theorem wide_wrap (v : Int) : IntKind.u64.wrap v = (wide v : Int) := by rw [IntKind.wrap_u64, wide]; omega
theorem low_wide (v : Int) : low v = wide v % 2 ^ 32 := by
  have e : (2 : Nat) ^ 32 = 4294967296 := rfl
  rw [e]; unfold low wide; omega
theorem wide_test (v : Int) (j : Nat) (h : j < 32) : (wide v).testBit j = (low v).testBit j := by
  rw [low_wide, Nat.testBit_mod_two_pow]; simp [h]
theorem and_ones (x n : Nat) (hx : x < 18446744073709551616) (hn : n ≤ 64) : bits BinOp.and IntKind.u64 (x : Int) ((2 ^ n - 1 : Nat) : Int) = ((x % 2 ^ n : Nat) : Int) := by
  have h1 : 2 ^ n ≤ 2 ^ 64 := Nat.pow_le_pow_right (by omega) hn
  have e : (2 : Nat) ^ 64 = 18446744073709551616 := rfl
  have h2 : 0 < 2 ^ n := Nat.two_pow_pos n
  rw [bits_and_u64_nat _ _ hx (by omega), Nat.and_two_pow_sub_one_eq_mod]

theorem nat_shift {x b n : Nat} (h : b + n ≤ 64) (hx : x < 2 ^ n) : IntKind.u64.wrap ((x : Int) * 2 ^ b) = ((x * 2 ^ b : Nat) : Int) := by
  have := ones_lt h hx
  have e : ((x : Int) * 2 ^ b) = ((x * 2 ^ b : Nat) : Int) := by simp
  rw [e, IntKind.wrap_u64]
  generalize x * 2 ^ b = y at *
  omega
theorem ones_wrap (n : Nat) (h : n ≤ 63) : IntKind.u64.wrap (IntKind.u64.wrap ((2 : Int) ^ n) - 1) = ((2 ^ n - 1 : Nat) : Int) := by
  have h1 : 2 ^ n ≤ 2 ^ 63 := Nat.pow_le_pow_right (by omega) h
  have e : (2 : Nat) ^ 63 = 9223372036854775808 := rfl
  have h2 : 0 < 2 ^ n := Nat.two_pow_pos n
  have e2 : ((2 : Int) ^ n) = ((2 ^ n : Nat) : Int) := by simp
  rw [e2, IntKind.wrap_u64, IntKind.wrap_u64]
  omega
theorem ones_lt2 (n : Nat) : 2 ^ n - 1 < 2 ^ n := by have : 0 < 2 ^ n := Nat.two_pow_pos n; omega

theorem put_final {N b k n : Nat} (v : Int) (hN : N < 18446744073709551616) (hbn : b + n ≤ 64) (hn : n ≤ 63) (hk : k + n ≤ 32) :
    bits BinOp.or IntKind.u64 (bits BinOp.andNot IntKind.u64 (N : Int) (IntKind.u64.wrap (IntKind.u64.wrap (IntKind.u64.wrap (2 ^ n) - 1) * 2 ^ b)))
      (IntKind.u64.wrap (bits BinOp.and IntKind.u64 (IntKind.u64.wrap v / 2 ^ k) (IntKind.u64.wrap (IntKind.u64.wrap (2 ^ n) - 1)) * 2 ^ b)) = (putTo N (low v) b k n : Nat) := by
  have hle : wide v / 2 ^ k ≤ wide v := Nat.div_le_self _ _
  have hw := wide_lt v
  have e : ((wide v : Int) / 2 ^ k) = ((wide v / 2 ^ k : Nat) : Int) := by simp
  rw [ones_wrap n hn, wide_wrap v, e, and_ones _ _ (by omega) (by omega), nat_shift hbn (ones_lt2 n), nat_shift hbn (Nat.mod_lt _ (Nat.two_pow_pos n)), putTo_bits hN hbn,
    putTo_congr (fun j hj => wide_test v j (by omega))]
theorem get_final {N b k n : Nat} (v : Int) (hN : N < 18446744073709551616) (hkn : k + n ≤ 32) :
    wrap64 (bits BinOp.or IntKind.u64 (bits BinOp.andNot IntKind.u64 (bits BinOp.and IntKind.u64 (IntKind.u64.wrap v) 4294967295) (IntKind.u64.wrap (IntKind.u64.wrap (IntKind.u64.wrap (2 ^ n) - 1) * 2 ^ k)))
      (IntKind.u64.wrap (bits BinOp.and IntKind.u64 ((N : Int) / 2 ^ b) (IntKind.u64.wrap (IntKind.u64.wrap (2 ^ n) - 1)) * 2 ^ k))) = (putTo (low v) N k b n : Nat) := by
  have hle : N / 2 ^ b ≤ N := Nat.div_le_self _ _
  have hw := wide_lt v
  have hlw := low_lt v
  have e : ((N : Int) / 2 ^ b) = ((N / 2 ^ b : Nat) : Int) := by simp
  have e32 : (4294967295 : Int) = ((2 ^ 32 - 1 : Nat) : Int) := rfl
  have p32 : (2 : Nat) ^ 32 = 4294967296 := rfl
  rw [ones_wrap n (by omega), wide_wrap v, e32, and_ones _ 32 hw (by omega), ← low_wide, e, and_ones _ _ (by omega) (by omega), nat_shift (n := n) (by omega) (ones_lt2 n), nat_shift (n := n) (by omega) (Nat.mod_lt _ (Nat.two_pow_pos n)), putTo_bits (by omega) (by omega)]
  have := putTo_lt (m := 32) N k b n (N := low v) (by omega) (by omega)
  simp only [wrap64]
  omega

end Go.Proofs.Ytljodhcfimklkab
