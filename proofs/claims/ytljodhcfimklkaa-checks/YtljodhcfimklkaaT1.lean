import Derived.Test.YtljodhcfimklkaaS5
import Derived.Test.YtljodhcfimklkaaSC
namespace Go.Proofs.Ytljodhcfimklkaa
open Go.RowKit

set_option maxHeartbeats 400000 in
theorem Checks_any (s : ByteArray) (w : World) (hs : s.size ≤ maxLen) :
    Calls Try.prog 3 #[.string s] w fun e w' => e = .returned (.bool true) ∧ Below w.heap.size w w' := by
  go_enter Try.func3, Try.ntmps3
  go_wp2_with fail
  refine (Check_any s _ hs).mono ?_
  rintro e w1 ⟨rfl, hb1⟩
  go_wp2_with fail
  refine (rCheck_any s _ hs).mono ?_
  rintro e w2 ⟨rfl, hb2⟩
  have HB := hide (hb1.trans (hb2.mono hb1.size))
  clear hb1 hb2
  go_wp2_with go_in
  go_ret
  exact ⟨rfl, unhide HB⟩

end Go.Proofs.Ytljodhcfimklkaa
