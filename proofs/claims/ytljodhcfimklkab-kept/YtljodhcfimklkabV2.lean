import Derived.Test.YtljodhcfimklkabV1
namespace Go.Proofs.Ytljodhcfimklkab
open Go.RowKit

theorem errOf_reach {L E : List Sg} {s : Sg} {sz : Int} (h : errOf L E s sz = 0) : anyIx (fun k => decide (8 * sz ≤ place s.st s.ln s.od k)) s.ln.toNat = false := by
  cases e : anyIx (fun k => decide (8 * sz ≤ place s.st s.ln s.od k)) s.ln.toNat with
  | false => rfl
  | true =>
    exfalso
    rw [errOf] at h
    split at h
    · omega
    · split at h
      · omega
      · split at h
        · omega
        · first | omega | (rw [if_pos e] at h; omega)

/-- Every bit of every signal lies within the payload. -/
def Within (L : List Sg) (sz : Int) : Prop := ∀ k, k < L.length → ∀ i : Nat, (i : Int) < (sgAt L k).ln → place (sgAt L k).st (sgAt L k).ln (sgAt L k).od i < 8 * sz

theorem sound_within {s : ByteArray} {M : List Mg} (hz : chkE s = 0) (h : pDb s 4 0 = .inr M) {k : Nat} (hk : k < M.length) : Within (mAt M k).sigs (mAt M k).sz := by
  intro j hj i hi
  have h1 := errOf_reach (sound_at hz h hk hj)
  cases e : decide (8 * (mAt M k).sz ≤ place (sgAt (mAt M k).sigs j).st (sgAt (mAt M k).sigs j).ln (sgAt (mAt M k).sigs j).od i) with
  | false => simp at e; omega
  | true => rw [anyIx_true.2 ⟨i, by omega, e⟩] at h1; cases h1

theorem and_one_i64 (x : Int) (h0 : 0 ≤ x) (h1 : x < 9223372036854775808) : bits BinOp.and IntKind.i64 x 1 = x % 2 := by
  have := bits_mask .i64 63 (by decide) (fun n a b => by rw [IntKind.wrap_i64]; omega) 1 (by decide) x h0 (by omega)
  simpa using this

theorem layTo_one {st ln od v : Int} {k : Nat} (h : bitv v k = 1) : layTo st ln od v (k + 1) = layTo st ln od v k ||| 2 ^ (place st ln od k).toNat := by
  rw [layTo, h, Nat.one_mul]
theorem layTo_zero {st ln od v : Int} {k : Nat} (h : bitv v k = 0) : layTo st ln od v (k + 1) = layTo st ln od v k := by
  rw [layTo, h, Nat.zero_mul, Nat.or_zero]

theorem firstUn_none {L : List Sg} {Z : List Int} {c : Int} (h : firstUn L Z c < 0) : ∀ k, k < L.length → activeB (sgAt L k).rl c = true → fitsB (sgAt L k).kd (sgAt L k).ln (zAt Z k) = true := by
  intro k hk ha
  rcases findIx_cases (unfit L Z c) L.length with ⟨_, h2⟩ | ⟨j, _, h2, _⟩
  · have := h2 k hk
    rw [unfit, ha] at this
    simpa using this
  · exfalso; rw [firstUn, h2] at h; omega

end Go.Proofs.Ytljodhcfimklkab
