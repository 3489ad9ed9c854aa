import Derived.Test.YtljodhcfimklkabG
import Derived.Laws.BytesArg
namespace Go.Proofs.Ytljodhcfimklkab
open Go.RowKit

/-- Is a signal of this role active, if the multiplexor's value is c? -/
def activeB (rl c : Int) : Bool := !isDigB rl || decide (rl - 48 = c)

/-- Half of what n bits can hold. -/
def half (ln : Int) : Int := 2 ^ (ln.toNat - 1)
theorem half_pos (ln : Int) : 1 ≤ half ln := by
  have : (0 : Int) < 2 ^ (ln.toNat - 1) := Int.pow_pos (by omega)
  unfold half; omega
theorem half_le (ln : Int) (h : ln ≤ 32) : half ln ≤ 2147483648 := by
  unfold half
  have h1 : (2 : Nat) ^ (ln.toNat - 1) ≤ 2 ^ 31 := Nat.pow_le_pow_right (by omega) (by omega)
  have e : (2 : Nat) ^ 31 = 2147483648 := rfl
  rw [e] at h1
  have e2 : ((2 : Int) ^ (ln.toNat - 1)) = (((2 : Nat) ^ (ln.toNat - 1) : Nat) : Int) := by simp
  rw [e2]; omega
theorem pow_half (ln : Int) (h : 1 ≤ ln) : (2 : Int) ^ ln.toNat = 2 * half ln := by
  unfold half
  obtain ⟨n, hn⟩ : ∃ n, ln.toNat = n + 1 := ⟨ln.toNat - 1, by omega⟩
  rw [hn, Nat.add_sub_cancel, Int.pow_succ, Int.mul_comm]

/-- Can a signal of this kind and length hold v? -/
def fitsB (kd ln v : Int) : Bool := if kd = 115 then decide (-(half ln) ≤ v) && decide (v < half ln) else decide (0 ≤ v) && decide (v < 2 * half ln)


theorem pow_half2 (ln : Int) : (2 : Int) ^ (ln.toNat - 1) = half ln := rfl

/-- What is laid of a value, as the document's reader has it. -/
def natural (ln v : Int) : Int := if v < 0 then v + 2 * half ln else v

theorem fitsB_bounds {kd ln v : Int} (h : fitsB kd ln v = true) : -(half ln) ≤ v ∧ v < 2 * half ln := by
  have := half_pos ln
  unfold fitsB at h
  split at h
  · simp at h; omega
  · simp at h; omega

theorem div_shift (x q : Int) (k : Nat) : (x + 2 ^ (k + 1) * q) / 2 ^ k = x / 2 ^ k + 2 * q := by
  have hp : (2 : Int) ^ k ≠ 0 := Int.ne_of_gt (Int.pow_pos (by omega))
  rw [Int.pow_succ, Int.mul_assoc, Int.add_mul_ediv_left _ _ hp]

theorem natural_bit (ln v : Int) (k : Nat) (h0 : 1 ≤ ln) (h1 : ln ≤ 32) (hk : (k : Int) < ln) (hlo : -(half ln) ≤ v) (hhi : v < 2 * half ln) :
    0 ≤ natural ln v ∧ natural ln v < 2 * half ln ∧ natural ln v / 2 ^ k % 2 = (bitv v k : Int) := by
  have hp := half_pos ln
  have hu := half_le ln h1
  unfold natural bitv
  split
  · rename_i hv
    refine ⟨by omega, by omega, ?_⟩
    have e1 : v % 18446744073709551616 = v + 18446744073709551616 := by omega
    rw [e1]
    have hpw := pow_half ln h0
    obtain ⟨n, hn⟩ : ∃ n : Nat, ln.toNat = k + 1 + n := ⟨ln.toNat - (k + 1), by omega⟩
    have e2 : v + 18446744073709551616 = (v + 2 * half ln) + 2 ^ (k + 1) * (2 ^ (63 - k) - 2 ^ n) := by
      have a1 : (2 : Int) ^ (k + 1) * 2 ^ (63 - k) = 18446744073709551616 := by
        rw [← Int.pow_add, show k + 1 + (63 - k) = 64 by omega]; rfl
      have a2 : (2 : Int) ^ (k + 1) * 2 ^ n = 2 * half ln := by rw [← Int.pow_add, ← hn, hpw]
      rw [Int.mul_sub, a1, a2]; omega
    rw [e2, div_shift]
    omega
  · rename_i hv
    refine ⟨by omega, by omega, ?_⟩
    have e1 : v % 18446744073709551616 = v := by omega
    rw [e1]
    omega

/-- What X makes of a register. -/
def extV (v n : Int) : Int := if half n ≤ v % (2 * half n) then v % (2 * half n) - 2 * half n else v % (2 * half n)

theorem and_mask (v : Int) (n : Nat) (h : n ≤ 62) : bits BinOp.and IntKind.i64 v (2 ^ n - 1) = v % 2 ^ n := by
  have hpos : 0 < 2 ^ n := Nat.two_pow_pos n
  have hle : 2 ^ n ≤ 2 ^ 62 := Nat.pow_le_pow_right (by omega) h
  have e62 : (2 : Nat) ^ 62 = 4611686018427387904 := rfl
  have hc : ((2 : Int) ^ n - 1) = ((2 ^ n - 1 : Nat) : Int) := by rw [Int.natCast_sub hpos]; simp
  have hc2 : ((2 : Int) ^ n) = ((2 ^ n : Nat) : Int) := by simp
  show IntKind.i64.wrap ((BitVec.ofInt 64 v &&& BitVec.ofInt 64 (2 ^ n - 1)).toNat : Int) = _
  have h2 : (BitVec.ofInt 64 ((2 ^ n - 1 : Nat) : Int)).toNat = 2 ^ n - 1 := by
    rw [BitVec.ofInt_natCast, BitVec.toNat_ofNat]; exact Nat.mod_eq_of_lt (by omega)
  rw [hc, BitVec.toNat_and, h2, Nat.and_two_pow_sub_one_eq_mod, BitVec.toNat_ofInt, IntKind.wrap_i64, hc2]
  have e64 : ((2 ^ 64 : Nat) : Int) = 18446744073709551616 := rfl
  rw [e64]
  have hd : (((v % 18446744073709551616).toNat % 2 ^ n : Nat) : Int) = v % ((2 ^ n : Nat) : Int) := by
    rw [Int.natCast_emod, Int.toNat_of_nonneg (Int.emod_nonneg _ (by omega)), Int.emod_emod_of_dvd]
    refine ⟨((2 ^ (64 - n) : Nat) : Int), ?_⟩
    rw [← Int.natCast_mul, ← Nat.pow_add, show n + (64 - n) = 64 by omega]; rfl
  rw [hd]
  have h3 : 0 ≤ v % ((2 ^ n : Nat) : Int) := Int.emod_nonneg _ (by omega)
  have h4 : v % ((2 ^ n : Nat) : Int) < ((2 ^ n : Nat) : Int) := Int.emod_lt_of_pos _ (by omega)
  omega

/-- Byte j of a payload's number. -/
def byteOf (N j : Nat) : Nat := N / 2 ^ (8 * j) % 256
theorem byteOf_lt (N j : Nat) : byteOf N j < 256 := Nat.mod_lt _ (by omega)
theorem byteOf_bit (N j i : Nat) : (byteOf N j).testBit i = (decide (i < 8) && N.testBit (8 * j + i)) := by
  rw [byteOf, show (256 : Nat) = 2 ^ 8 from rfl, Nat.testBit_mod_two_pow, Nat.testBit_div_two_pow, Nat.add_comm]
theorem byteOf_put (N b : Nat) : byteOf (N ||| 2 ^ b) (b / 8) = byteOf N (b / 8) ||| 2 ^ (b % 8) := by
  apply Nat.eq_of_testBit_eq
  intro i
  rw [byteOf_bit, Nat.testBit_or, Nat.testBit_or, byteOf_bit, Nat.testBit_two_pow, Nat.testBit_two_pow]
  by_cases h : i < 8
  · by_cases e : b % 8 = i
    · have : b = 8 * (b / 8) + i := by omega
      simp [h, e, ← this]
    · have : ¬ b = 8 * (b / 8) + i := by omega
      simp [h, e, this]
  · have : ¬ b % 8 = i := by omega
    simp [h, this]
theorem byteOf_other (N b j : Nat) (h : j ≠ b / 8) : byteOf (N ||| 2 ^ b) j = byteOf N j := by
  apply Nat.eq_of_testBit_eq
  intro i
  rw [byteOf_bit, Nat.testBit_or, byteOf_bit, Nat.testBit_two_pow]
  by_cases hi : i < 8
  · have : ¬ b = 8 * j + i := by omega
    simp [this]
  · simp [hi]

/-- The payload of n bytes that a number is. -/
def bytesL (N n : Nat) : List Int := (List.range n).map (fun j => (byteOf N j : Int))
def payB (N n : Nat) : ByteArray := strOfNums (bytesL N n)
theorem bytesL_len (N n : Nat) : (bytesL N n).length = n := by simp [bytesL]
theorem bytesL_get (N n i : Nat) (h : i < n) : (bytesL N n).getD i 0 = (byteOf N i : Int) := by simp [bytesL, h]
theorem bytesL_succ (N n : Nat) : bytesL N (n + 1) = bytesL N n ++ [(byteOf N n : Int)] := by simp [bytesL, List.range_succ]

/-- The payload's number behind the first k signals. -/
def bitsTo (L : List Sg) (Z : List Int) (c : Int) : Nat → Nat
  | 0 => 0
  | k + 1 => if activeB (sgAt L k).rl c then bitsTo L Z c k ||| layTo (sgAt L k).st (sgAt L k).ln (sgAt L k).od (Z.getD k 0) (sgAt L k).ln.toNat else bitsTo L Z c k

end Go.Proofs.Ytljodhcfimklkab
