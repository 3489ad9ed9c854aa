import Derived.Test.YtljodhcfimklkabM5
import Derived.Test.YtljodhcfimklkabMB
namespace Go.Proofs.Ytljodhcfimklkab
open Go.RowKit

set_option maxHeartbeats 1000000 in
theorem putBits_any (N : Nat) (v op r b k n : Int) (w : World) (hN : N < 18446744073709551616) (b0 : 0 ≤ b) (b1 : b ≤ 63) (n1 : 1 ≤ n) (h8 : b % 8 + n ≤ 8) (k0 : 0 ≤ k) (h32 : k + n ≤ 32) :
    Calls Try.prog 34 #[.int .u64 N, .int .i64 v, .agg #[.int .u8 op, .int .i64 r, .int .i64 b, .int .i64 k, .int .i64 n]] w
      fun e w' => e = .returned (.int .u64 (putTo N (low v) b.toNat k.toNat n.toNat : Nat)) ∧ Below w.heap.size w w' := by
  go_enter Try.func34, Try.ntmps34
  go_wp2
  go_ret
  refine ⟨ret_u64 ?_, ?_⟩
  · exact put_final v hN (by omega) (by omega) (by omega)
  · exact (Below.refl _ _).alloc (Nat.le_refl _) _

set_option maxHeartbeats 1000000 in
theorem getBits_any (N : Nat) (v op r b k n : Int) (w : World) (hN : N < 18446744073709551616) (b0 : 0 ≤ b) (b1 : b ≤ 63) (n1 : 1 ≤ n) (k0 : 0 ≤ k) (h32 : k + n ≤ 32) :
    Calls Try.prog 33 #[.int .i64 v, .int .u64 N, .agg #[.int .u8 op, .int .i64 r, .int .i64 b, .int .i64 k, .int .i64 n]] w
      fun e w' => e = .returned (.int .i64 (putTo (low v) N k.toNat b.toNat n.toNat : Nat)) ∧ Below w.heap.size w w' := by
  go_enter Try.func33, Try.ntmps33
  go_wp2
  go_ret
  refine ⟨ret_int ?_, ?_⟩
  · exact get_final v hN (by omega)
  · exact (Below.refl _ _).alloc (Nat.le_refl _) _

end Go.Proofs.Ytljodhcfimklkab
