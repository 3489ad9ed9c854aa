import Derived.Test.YtljodhcfimklkaaS4
namespace Go.Proofs.Ytljodhcfimklkaa
open Go.RowKit

set_option maxHeartbeats 400000 in
theorem Check_any (s : ByteArray) (w : World) (hs : s.size ≤ maxLen) :
    Calls Try.prog 15 #[.string s] w fun e w' => e = .returned (.tuple #[.int .i64 (chkE s), .int .i64 (chkP s)]) ∧ Below w.heap.size w w' := by
  go_enter Try.func15, Try.ntmps15
  go_wp2_with fail
  refine (soundMessages_any s _ hs).mono ?_
  rintro e w1 ⟨hout, hb1⟩
  rcases hout with ⟨hz, v, P, rfl, hpd, hm, hl, hok⟩ | ⟨hz, rfl⟩
  · have HZ := hide hz
    clear hz hpd hm hok
    go_wp2
    go_ret2
    exact ⟨by rw [unhide HZ, chk_ok (unhide HZ)]; rfl, hb1⟩
  · clear hz
    go_wp2
    go_ret2
    exact ⟨rfl, hb1⟩

end Go.Proofs.Ytljodhcfimklkaa
