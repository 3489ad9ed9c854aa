import Derived.Test.YtljodhcfimklkaaZ5
import Derived.Test.YtljodhcfimklkaaZ3
namespace Go.Proofs.Ytljodhcfimklkaa
open Go.RowKit

set_option maxRecDepth 100000 in
set_option maxHeartbeats 2000000 in
theorem Forth_any (s id p : ByteArray) (w : World) (hs : s.size ≤ maxLen) (hid : id.size ≤ maxLen) :
    Calls Try.prog 7 #[.string s, .string id, .string p] w fun e w' => e = .returned (.bool true) ∧ Below w.heap.size w w' := by
  go_enter Try.func7, Try.ntmps7
  go_wp2_with fail
  refine (Unpack_any s id p _ hs hid).mono ?_
  rintro e w1 ⟨⟨u, rfl, hu⟩, hb1⟩
  have HU := hide hu
  have HB1 := hide hb1
  obtain ⟨ua, ucap, rfl, _, hu2, hu3⟩ := hu
  clear hu2 hu3 hb1
  go_wp2_with fail
  refine (rCheck_any s _ hs).mono ?_
  rintro e w2 ⟨rfl, hb2⟩
  have HB2 := hide ((unhide HB1).trans (hb2.mono (unhide HB1).size))
  have HBU := hide hb2
  clear hb2
  by_cases hpe : (up s id p).2.2.1 = 0
  case neg =>
    have hne : ((up s id p).2.2.1 != 0) = true := by simpa using hpe
    clear hpe HU
    generalize (up s id p).2.2.1 = x2 at *
    go_wp2_with (go_at_call 17; refine (num_any _ _).mono ?_; rintro e w' ⟨rfl, rfl⟩)
    go_ret
    exact ⟨rfl, unhide HB2⟩
  obtain ⟨hzc, hl320, h8, M, k, hpd, hk, hix, hsz, hvv⟩ := up_ok hpe
  obtain ⟨ok, hg⟩ := good_of hpd hk
  have hwi := sound_within hzc hpd hk
  have hpk := pk_forth (N := payTo p p.size) hzc hpd hk hix
  rw [← hsz] at hwi hpk
  rw [← hvv, Int.toNat_natCast] at hpk
  rw [hpe, hzc]
  have HPD := hide hpd
  have HIX := hide hix
  have HPK := hide hpk
  have HG := hide hg
  have HWI := hide hwi
  have HVV := hide hvv
  have HSZ := hide hsz
  have hlen8 := ok.len
  have H320 := hide hl320
  have H8 := hide h8
  clear hpe hzc hpd hix hpk hg hwi hvv hsz ok hl320 hk h8
  go_wp2_with (go_at_call 17; refine (num_any _ _).mono ?_; rintro e w' ⟨rfl, rfl⟩)
  refine (rFind_any s id M _ (by have := unhide H320; omega) (unhide HPD)).mono ?_
  rintro e w4 ⟨hout, hb4⟩
  have HB4 := hide ((unhide HB2).trans (hb4.mono (unhide HB2).size))
  have HBU4 := hide ((unhide HBU).trans (hb4.mono (unhide HBU).size))
  clear hb4
  rcases hout with ⟨hix', rfl⟩ | ⟨k', sv, hk', hix', rfl, hsv⟩
  · have := unhide HIX; omega
  obtain rfl : k' = k := by have := unhide HIX; omega
  obtain ⟨m, hm⟩ : ∃ m, m = mAt M k' := ⟨_, rfl⟩
  rw [← hm] at hsv HG HPK HVV HWI HSZ hlen8
  rw [← hm]
  have HSV := hide hsv
  obtain ⟨va, vcap, rfl⟩ := ownsRow_form hsv
  rw [← unhide HSZ]
  clear hsv hix' hk' hm
  have hbox := fun (wx : World) (h : Below (w4.heap.size + 1) (w4.alloc (.cells #[.string m.id, .int .i64 p.size, .slice va m.sigs.length vcap, .int .i64 m.pl] 45)) wx) => box_cell h
  have HB5 : Hid (Below (w4.heap.size + 1) (w4.alloc (.cells #[.string m.id, .int .i64 p.size, .slice va m.sigs.length vcap, .int .i64 m.pl] 45)) (w4.alloc (.cells #[.string m.id, .int .i64 p.size, .slice va m.sigs.length vcap, .int .i64 m.pl] 45))) := hide (Below.refl _ _)
  have hpp : ((p.size : Int) != (p.size : Int)) = false := by simp
  go_wp2_with fail
  refine (Pack_any s id _ (up s id p).1 _ hs hid ((unhide HU).below ((unhide HBU4).trans ((box_below (unhide HB5)).mono (unhide HBU4).size)))).mono ?_
  rintro e w6 ⟨rfl, hb6⟩
  have HB6 := hide (box_next (unhide HB5) hb6)
  have hbw6 := hbox _ (unhide HB6)
  clear hb6
  have hpk := pk_eta _ (unhide HPK)
  rw [hpk.1, hpk.2.1, hpk.2.2]
  rw [unhide HVV]
  clear hpk
  go_wp2_with fail
  refine (rOwned_any m.id p m.pl _ m.sigs _ (ownsRow_below (unhide HSV) (box_below (unhide HB6))) (unhide HG) (by have := unhide H8; omega) (unhide HWI)).mono ?_
  rintro e w7 ⟨rfl, hb7⟩
  have HB7 := hide (box_next (unhide HB6) hb7)
  clear hb7 hbw6
  generalize payB _ p.size = x1
  go_wp2_with (go_at_call 17; refine (num_any _ _).mono ?_; rintro e w' ⟨rfl, rfl⟩)
  go_ret
  exact ⟨rfl, (unhide HB4).trans ((box_below (unhide HB7)).mono (unhide HB4).size)⟩

end Go.Proofs.Ytljodhcfimklkaa
