import Derived.Test.YtljodhcfimklkabV1
namespace Go.Proofs.Ytljodhcfimklkab
open Go.RowKit

theorem pk_eta (x : ByteArray × Int × Int) {a : ByteArray} {b c : Int} (h : x = (a, b, c)) : x.1 = a ∧ x.2.1 = b ∧ x.2.2 = c := by rw [h]; exact ⟨rfl, rfl, rfl⟩

set_option maxRecDepth 100000 in
set_option maxHeartbeats 2000000 in
theorem Pack_any (s id : ByteArray) (vz : Value) (Z : List Int) (w : World) (hs : s.size ≤ maxLen) (hid : id.size ≤ maxLen) (hz : IntsAt w vz Z) :
    Calls Try.prog 5 #[.string s, .string id, vz] w fun e w' => e = .returned (.tuple #[.string (pk s id Z).1, .int .i64 (pk s id Z).2.1, .int .i64 (pk s id Z).2.2]) ∧ Below w.heap.size w w' := by
  have HZZ := hide hz
  obtain ⟨za, zcap, rfl, hz1, hz2, hz3⟩ := hz
  have HZ2 := hide hz2
  have HZ3 := hide hz3
  clear hz2 hz3
  go_enter Try.func5, Try.ntmps5
  go_wp2_with fail
  refine (soundMessage_any s id _ hs hid).mono ?_
  rintro e w1 ⟨hout, hb1⟩
  have HB1 := hide hb1
  clear hb1
  rcases hout with ⟨hz, rfl⟩ | ⟨hz, M, hpd, hout⟩
  · have HP := hide (pk_eta _ (pk_bad (id := id) (Z := Z) hz))
    have hz2 : (chkE s != 0) = true := by simpa using hz
    clear hz
    go_wp2
    go_ret3
    exact ⟨by rw [(unhide HP).1, (unhide HP).2.1, (unhide HP).2.2]; rfl, (unhide HB1).alloc (unhide HB1).size _⟩
  rcases hout with ⟨hix, rfl⟩ | ⟨k, sv, hk, hix, rfl, hsv, hmo⟩
  · have HP := hide (pk_eta _ (pk_id (Z := Z) hz hpd hix))
    clear hz hpd hix
    go_wp2
    go_ret3
    exact ⟨by rw [(unhide HP).1, (unhide HP).2.1, (unhide HP).2.2]; rfl, (unhide HB1).alloc (unhide HB1).size _⟩
  obtain ⟨m, hm⟩ : ∃ m, m = mAt M k := ⟨_, rfl⟩
  have HPK := hide (pk_msg (Z := Z) hz hpd hix)
  have HG := hide (good_of hpd hk).2
  have HAF := hide (sound_fits hz hpd hk)
  rw [← hm] at hsv hmo HPK HG HAF
  rw [← hm]
  obtain ⟨va, vcap, rfl⟩ := ownsRow_form hsv
  have HSV := hide hsv
  have HMO := hide hmo
  have hlen8 := hmo.len
  have hsz0 := hmo.sz0
  have hsz1 := hmo.sz1
  have hszn : ((m.sz.toNat : Nat) : Int) = m.sz := Int.toNat_of_nonneg hmo.sz0
  have HSN := hide hszn
  clear hz hpd hix hsv hmo hm hk hszn
  have HBB : Hid (Below (w1.heap.size + 1) (w1.alloc (.cells #[.int .i64 m.pl, .int .i64 (idNum m.id), .int .i64 m.sz, .slice va m.sigs.length vcap] 35)) (w1.alloc (.cells #[.int .i64 m.pl, .int .i64 (idNum m.id), .int .i64 m.sz, .slice va m.sigs.length vcap] 35))) := hide (Below.refl _ _)
  by_cases hln : Z.length = m.sigs.length
  · have hl2 : ((Z.length : Int) != (m.sigs.length : Int)) = false := by rw [hln]; simp
    have HLN := hide hln
    have hle1 : Z.length ≤ m.sigs.length := by omega
    have hle2 : m.sigs.length ≤ Z.length := by omega
    clear hln
    go_wp2_with fail
    refine (multiplexor_any _ m.sigs _ (ownsRow_below (unhide HSV) (box_below (unhide HBB))) hlen8).mono ?_
    rintro e w2 ⟨rfl, rfl⟩
    have HC : Hid (IntsAt w1 (.slice za Z.length zcap) Z) := hide ((unhide HZZ).below (unhide HB1))
    rcases mux_range m.sigs with hmx | ⟨x, hx, hmx, _⟩
    · have HCH := hide (show choiceOf m.sigs Z = 0 by rw [choiceOf, hmx]; rfl)
      have hmx2 : muxOf m.sigs < 0 := by omega
      clear hmx
      go_wp2_with fail
      refine (firstUnfit_any _ _ m.sigs Z 0 _ (ownsRow_below (unhide HSV) (box_below (unhide HBB))) ((unhide HC).below (box_below (unhide HBB))) (unhide HLN) (unhide HG)).mono ?_
      rintro e w3 ⟨rfl, hb3⟩
      have HB3 := hide (box_next (unhide HBB) hb3)
      have hx3 := box_cell (unhide HB3)
      clear hb3
      by_cases hu : 0 ≤ firstUn m.sigs Z 0
      · have HP := hide (pk_eta _ (show pk s id Z = (noBytes, 9, firstUn m.sigs Z 0) by rw [unhide HPK, pkMsg, if_neg (by rw [unhide HLN]; simp), unhide HCH, if_pos hu]))
        go_wp2
        go_ret3
        exact ⟨by rw [(unhide HP).1, (unhide HP).2.1, (unhide HP).2.2]; rfl, (unhide HB1).trans ((box_below (unhide HB3)).mono (unhide HB1).size)⟩
      · have HP := hide (pk_eta _ (show pk s id Z = (payB (bitsTo m.sigs Z 0 m.sigs.length) m.sz.toNat, 0, 0) by rw [unhide HPK, pkMsg, if_neg (by rw [unhide HLN]; simp), unhide HCH, if_neg hu]))
        go_wp2_with fail
        refine (packBits_any _ _ m.sigs Z 0 _ (ownsRow_below (unhide HSV) (box_below (unhide HB3))) ((unhide HC).below (box_below (unhide HB3))) (unhide HLN) (unhide HG) (unhide HAF)).mono ?_
        rintro e w4 ⟨rfl, hb4⟩
        have HB4 := hide (box_next (unhide HB3) hb4)
        clear hx3 hb4
        have hx4 := box_cell (unhide HB4)
        go_wp2_with fail
        rw [← unhide HSN]
        refine (payloadText_any _ m.sz.toNat _ (by omega)).mono ?_
        rintro e w5 ⟨rfl, hb5⟩
        have HB5 := hide (box_next (unhide HB4) hb5)
        clear hx4 hb5
        go_wp2
        go_ret3
        exact ⟨by rw [(unhide HP).1, (unhide HP).2.1, (unhide HP).2.2]; rfl, (unhide HB1).trans ((box_below (unhide HB5)).mono (unhide HB1).size)⟩
    · have hchx : choiceOf m.sigs Z = zAt Z x := by rw [choiceOf, hmx, if_pos (by omega), Int.toNat_natCast]
      have HCH := hide hchx
      rw [hmx]
      have hi0 : (0 : Int) ≤ (x : Int) := by omega
      have hi1 : (x : Int) < (Z.length : Int) := by omega
      cases za with
      | none => have := unhide HZ2 rfl; omega
      | some xa =>
        have hzc := ints_cell (unhide HZ3 xa rfl) (Below.trans (unhide HB1) ((box_below (unhide HBB)).mono (unhide HB1).size)) (show x < Z.length by omega)
        clear hchx hmx
        go_wp2_with fail
        refine (firstUnfit_any _ _ m.sigs Z (zAt Z x) _ (ownsRow_below (unhide HSV) (box_below (unhide HBB))) ((unhide HC).below (box_below (unhide HBB))) (unhide HLN) (unhide HG)).mono ?_
        rintro e w3 ⟨rfl, hb3⟩
        have HB3 := hide (box_next (unhide HBB) hb3)
        have hx3 := box_cell (unhide HB3)
        clear hb3
        by_cases hu : 0 ≤ firstUn m.sigs Z (zAt Z x)
        · have HP := hide (pk_eta _ (show pk s id Z = (noBytes, 9, firstUn m.sigs Z (zAt Z x)) by rw [unhide HPK, pkMsg, if_neg (by rw [unhide HLN]; simp), unhide HCH, if_pos hu]))
          go_wp2
          go_ret3
          exact ⟨by rw [(unhide HP).1, (unhide HP).2.1, (unhide HP).2.2]; rfl, (unhide HB1).trans ((box_below (unhide HB3)).mono (unhide HB1).size)⟩
        · have HP := hide (pk_eta _ (show pk s id Z = (payB (bitsTo m.sigs Z (zAt Z x) m.sigs.length) m.sz.toNat, 0, 0) by rw [unhide HPK, pkMsg, if_neg (by rw [unhide HLN]; simp), unhide HCH, if_neg hu]))
          go_wp2_with fail
          refine (packBits_any _ _ m.sigs Z (zAt Z x) _ (ownsRow_below (unhide HSV) (box_below (unhide HB3))) ((unhide HC).below (box_below (unhide HB3))) (unhide HLN) (unhide HG) (unhide HAF)).mono ?_
          rintro e w4 ⟨rfl, hb4⟩
          have HB4 := hide (box_next (unhide HB3) hb4)
          clear hx3 hb4
          have hx4 := box_cell (unhide HB4)
          go_wp2_with fail
          rw [← unhide HSN]
          refine (payloadText_any _ m.sz.toNat _ (by omega)).mono ?_
          rintro e w5 ⟨rfl, hb5⟩
          have HB5 := hide (box_next (unhide HB4) hb5)
          clear hx4 hb5
          go_wp2
          go_ret3
          exact ⟨by rw [(unhide HP).1, (unhide HP).2.1, (unhide HP).2.2]; rfl, (unhide HB1).trans ((box_below (unhide HB5)).mono (unhide HB1).size)⟩
  · have HP := hide (pk_eta _ (show pk s id Z = (noBytes, 8, 0) by rw [unhide HPK, pkMsg, if_pos hln]))
    have hl2 : ((Z.length : Int) != (m.sigs.length : Int)) = true := by rw [bne_iff_ne]; omega
    clear hln
    go_wp2
    go_ret3
    exact ⟨by rw [(unhide HP).1, (unhide HP).2.1, (unhide HP).2.2]; rfl, (unhide HB1).alloc (unhide HB1).size _⟩

end Go.Proofs.Ytljodhcfimklkab
