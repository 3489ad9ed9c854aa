import Derived.Test.YtljodhcfimklkabSM
import Derived.Test.YtljodhcfimklkabMF
import Derived.Test.YtljodhcfimklkabU5
import Derived.Test.YtljodhcfimklkabW1
import Derived.Test.YtljodhcfimklkabW4
namespace Go.Proofs.Ytljodhcfimklkab
open Go.RowKit

set_option maxRecDepth 100000 in
theorem Send_zero (s id : ByteArray) (a : Option Addr) (n c : Nat) (w : World) :
    Calls Try.prog 6 #[.string s, .string id, .slice a n c] w fun e w' => e = .returned (.tuple #[.string { data := #[] }, .int .i64 0, .int .i64 0]) ∧ w = w' := by
  go_enter Try.func6, Try.ntmps6
  go_wp2
  go_ret3
  exact ⟨rfl, rfl⟩

set_option maxRecDepth 100000 in
set_option maxHeartbeats 1000000 in
theorem Kept_any (s id code : ByteArray) (v : Value) (Z : List Int) (size : Int) (w : World) (hs : s.size ≤ maxLen) (hid : id.size ≤ maxLen) (hz : IntsAt w v Z) (hr : Z.length * 8 ≤ 140737488351232) :
    Calls Try.prog 3 #[.string s, .string id, .string code, v, .int .i64 size] w fun e w' => e = .returned (.bool true) ∧ Below w.heap.size w w' := by
  have HZ := hide hz
  obtain ⟨za, zcap, rfl, hz1, hz2, hz3⟩ := hz
  clear hz2 hz3
  go_enter Try.func3, Try.ntmps3
  go_wp2_with fail
  refine (copied_any _ Z _ (unhide HZ) hr).mono ?_
  rintro e w1 ⟨u, rfl, hu, hb1⟩
  have HU := hide hu
  have HB1 := hide hb1
  obtain ⟨ua, ucap, rfl, hu1, hu2, hu3⟩ := hu
  clear hu2 hu3 hb1
  go_wp2_with fail
  refine (Pack_any s id _ Z _ hs hid (unhide HU)).mono ?_
  rintro e w2 ⟨rfl, hb2⟩
  have HB2 := hide hb2
  clear hb2
  go_wp2_with fail
  refine (Send_zero s id ua Z.length ucap _).mono ?_
  rintro e w' ⟨rfl, rfl⟩
  go_wp2_with fail
  refine (Fill_any code _ Z size _ ((unhide HU).below (unhide HB2)) hr).mono ?_
  rintro e w2f ⟨rfl, hb2f⟩
  have HB2f := hide ((unhide HB2).trans (hb2f.mono (unhide HB2).size))
  clear hb2f
  go_wp2_with fail
  refine (Same_any _ _ Z _ ((unhide HU).below (unhide HB2f)) ((unhide HZ).below ((unhide HB1).trans ((unhide HB2f).mono (unhide HB1).size))) hr).mono ?_
  rintro e w3 ⟨rfl, hb3⟩
  have HB3 := hide ((unhide HB2f).trans (hb3.mono (unhide HB2f).size))
  clear hb3
  go_wp2_with fail
  refine (Pack_any s id _ Z _ hs hid ((unhide HU).below (unhide HB3))).mono ?_
  rintro e w4 ⟨rfl, hb4⟩
  have HB4 := hide ((unhide HB3).trans (hb4.mono (unhide HB3).size))
  clear hb4
  go_wp2_with fail
  refine (Send_zero s id ua Z.length ucap _).mono ?_
  rintro e w' ⟨rfl, rfl⟩
  go_wp2_with fail
  refine (Fill_any code _ Z size _ ((unhide HU).below (unhide HB4)) hr).mono ?_
  rintro e w4f ⟨rfl, hb4f⟩
  have HB4f := hide ((unhide HB4).trans (hb4f.mono (unhide HB4).size))
  clear hb4f
  go_wp2_with fail
  refine (rPack_any s id _ Z _ hs ((unhide HZ).below ((unhide HB1).trans ((unhide HB4f).mono (unhide HB1).size)))).mono ?_
  rintro e w5 ⟨rfl, hb5⟩
  have HB5 := hide ((unhide HB1).trans (((unhide HB4f).trans (hb5.mono (unhide HB4f).size)).mono (unhide HB1).size))
  clear hb5
  generalize (fillOut code Z size).1 = y1
  generalize (fillOut code Z size).2.1 = y2
  generalize (fillOut code Z size).2.2 = y3
  generalize (pk s id Z).1 = x1
  generalize (pk s id Z).2.1 = x2
  generalize (pk s id Z).2.2 = x3
  go_wp2_with (go_at_call 10; refine (num_any _ _).mono ?_; rintro e w' ⟨rfl, rfl⟩)
  go_ret
  exact ⟨rfl, unhide HB5⟩

end Go.Proofs.Ytljodhcfimklkab
