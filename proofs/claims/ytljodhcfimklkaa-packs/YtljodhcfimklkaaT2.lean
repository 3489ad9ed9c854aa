import Derived.Test.YtljodhcfimklkaaU5
import Derived.Test.YtljodhcfimklkaaW1
import Derived.Test.YtljodhcfimklkaaW4
namespace Go.Proofs.Ytljodhcfimklkaa
open Go.RowKit

set_option maxRecDepth 100000 in
set_option maxHeartbeats 1000000 in
theorem Packs_any (s id : ByteArray) (v : Value) (Z : List Int) (w : World) (hs : s.size ≤ maxLen) (hid : id.size ≤ maxLen) (hz : IntsAt w v Z) (hr : Z.length * 8 ≤ 140737488351232) :
    Calls Try.prog 4 #[.string s, .string id, v] w fun e w' => e = .returned (.bool true) ∧ Below w.heap.size w w' := by
  have HZ := hide hz
  obtain ⟨za, zcap, rfl, hz1, hz2, hz3⟩ := hz
  clear hz2 hz3
  go_enter Try.func4, Try.ntmps4
  go_wp2_with fail
  refine (copied_any _ Z _ (unhide HZ) hr).mono ?_
  rintro e w1 ⟨u, rfl, hu, hb1⟩
  have HU := hide hu
  have HB1 := hide hb1
  obtain ⟨ua, ucap, rfl, hu1, hu2, hu3⟩ := hu
  clear hu2 hu3 hb1
  go_wp2_with fail
  refine (Pack_any s id _ Z _ hs hid (unhide HU)).mono ?_
  rintro e w2 ⟨rfl, hb2⟩
  have HB2 := hide ((unhide HB1).trans (hb2.mono (unhide HB1).size))
  clear hb2
  go_wp2_with fail
  refine (rPack_any s id _ Z _ hs ((unhide HZ).below (unhide HB2))).mono ?_
  rintro e w3 ⟨rfl, hb3⟩
  have HB3 := hide ((unhide HB2).trans (hb3.mono (unhide HB2).size))
  clear hb3
  generalize (pk s id Z).1 = x1
  generalize (pk s id Z).2.1 = x2
  generalize (pk s id Z).2.2 = x3
  go_wp2_with go_in
  go_ret
  exact ⟨rfl, unhide HB3⟩

end Go.Proofs.Ytljodhcfimklkaa
