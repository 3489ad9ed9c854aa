import Derived.Test.YtljodhcfimklkaaY5
import Derived.Test.YtljodhcfimklkaaSM
namespace Go.Proofs.Ytljodhcfimklkaa
open Go.RowKit

theorem up_len (s id p : ByteArray) : (up s id p).1.length ≤ 8 := by
  rw [up]
  split
  · simp
  · split
    · simp
    · split
      · simp
      · rename_i M hpd
        split
        · simp
        · rename_i hix
          rcases findIx_cases (fun k => decide ((mAt M k).id = id)) M.length with ⟨hn, _⟩ | ⟨k, hk, hkk, _⟩
          · exact absurd (show msgIx M id < 0 by unfold msgIx; omega) hix
          · have e : msgIx M id = k := hkk
            rw [e, Int.toNat_natCast, upMsg]
            split
            · simp
            · simp only [valsL_len]; exact (good_of hpd hk).1.len

theorem bytes_made (n : Nat) {w : World} {B : Nat} {v : Value} (h : w.ownsRow B 5 1 v n (List.replicate n (.int .u8 0))) :
    (convert 38 9 v).run Try.prog w = .ok (.string (strOfNums (List.replicate n 0))) w :=
  conv_row (xs := List.replicate n 0) (by rw [List.map_replicate]; exact h)

set_option maxRecDepth 100000 in
set_option maxHeartbeats 1000000 in
theorem Unpacks_any (s id p : ByteArray) (w : World) (hs : s.size ≤ maxLen) (hid : id.size ≤ maxLen) (hr : p.size ≤ 140737488351232) :
    Calls Try.prog 5 #[.string s, .string id, .string p] w fun e w' => e = .returned (.bool true) ∧ Below w.heap.size w w' := by
  obtain ⟨i0, hinf, hz0, hzz1, hzz2⟩ := info_parts Try.infoU8
  have HINF := hide hinf
  have HZ0 := hide hz0
  have HZ1 := hide hzz1
  have HZB := hide hzz2
  clear hinf hz0 hzz1 hzz2
  go_enter Try.func5, Try.ntmps5
  go_wp2_with fail
  refine (Unpack_any s id p _ hs hid).mono ?_
  rintro e w1 ⟨⟨u, rfl, hu⟩, hb1⟩
  have HB1 := hide hb1
  have HU := hide hu
  obtain ⟨ua, ucap, rfl, hu1, hu2, hu3⟩ := hu
  clear hu1 hu2 hu3 hb1
  go_wp2_with (at_make; refine wpList_make_full _ rfl _ _ 38 rfl w1.heap.size 5 i0 (.int .u8 0) 1 Try.underlying38 (unhide HINF) (unhide HZ0) (unhide HZ1) .i64 .i64 (p.size : Int) (p.size : Int) p.size rfl rfl rfl rfl (by rw [unhide HZB]; omega) (by unfold maxLen; omega) (Nat.le_refl _) ?_)
  intro w2 hown hgrow
  rw [toList_madeCells_one] at hown
  have hconv := bytes_made p.size hown
  have HB2 := hide ((Below.refl w1.heap.size w1).grown hgrow (Nat.le_refl _) (by simp))
  clear hown hgrow
  go_wp2_with fail
  refine (Unpack_any s id _ _ hs hid).mono ?_
  rintro e w3 ⟨⟨v, rfl, _⟩, hb3⟩
  have HB3 := hide ((unhide HB2).trans (hb3.mono (unhide HB2).size))
  clear hb3 hconv
  go_wp2_with fail
  refine (rUnpack_any s id p _ hs).mono ?_
  rintro e w4 ⟨⟨x, rfl, hx⟩, hb4⟩
  have HB4 := hide ((unhide HB3).trans (hb4.mono (unhide HB3).size))
  have HX := hide hx
  obtain ⟨xa, xcap, rfl, hx1, hx2, hx3⟩ := hx
  clear hb4 hx1 hx2 hx3
  go_wp2_with fail
  refine (Same_any _ _ (up s id p).1 _ ((unhide HU).below (unhide HB4)) (unhide HX) (by have := up_len s id p; omega)).mono ?_
  rintro e w5 ⟨rfl, hb5⟩
  have HB5 := hide ((unhide HB1).trans (((unhide HB4).trans (hb5.mono (unhide HB4).size)).mono (unhide HB1).size))
  clear hb5
  clear HU HX
  generalize (up s id p).2.1 = x1
  generalize (up s id p).2.2.1 = x2
  generalize (up s id p).2.2.2 = x3
  go_wp2_with go_in
  go_ret
  exact ⟨rfl, unhide HB5⟩

end Go.Proofs.Ytljodhcfimklkaa
