import Derived.Test.YtljodhcfimklkabV2
import Derived.Test.YtljodhcfimklkabW2
import Derived.Test.YtljodhcfimklkabW3
namespace Go.Proofs.Ytljodhcfimklkab
open Go.RowKit

theorem pk_eta' (x : ByteArray × Int × Int) {a : ByteArray} {b c : Int} (h : x = (a, b, c)) : x.1 = a ∧ x.2.1 = b ∧ x.2.2 = c := by rw [h]; exact ⟨rfl, rfl, rfl⟩

theorem bytesL_zero (L : List Sg) (Z : List Int) (c : Int) (n : Nat) : (bytesL (bitsTo L Z c 0) n).map (Value.int .u8) = List.replicate n (.int .u8 0) := by
  apply List.ext_getElem
  · simp [bytesL]
  · intro i h1 h2; simp [bytesL, bitsTo, byteOf]

set_option maxRecDepth 100000 in
set_option maxHeartbeats 4000000 in
theorem rPack_any (s id : ByteArray) (vz : Value) (Z : List Int) (w : World) (hs : s.size ≤ maxLen) (hz : IntsAt w vz Z) :
    Calls Try.prog 9 #[.string s, .string id, vz] w fun e w' => e = .returned (.tuple #[.string (pk s id Z).1, .int .i64 (pk s id Z).2.1, .int .i64 (pk s id Z).2.2]) ∧ Below w.heap.size w w' := by
  obtain ⟨i0, hinf, hz0, hzz1, hzz2⟩ := info_parts Try.infoU8
  have HINF := hide hinf
  have HZ0 := hide hz0
  have HZ1 := hide hzz1
  have HZB := hide hzz2
  clear hinf hz0 hzz1 hzz2
  have HZZ := hide hz
  obtain ⟨za, zcap, rfl, hz1, hz2, hz3⟩ := hz
  have HZ2 := hide hz2
  have HZ3 := hide hz3
  clear hz2 hz3
  go_enter Try.func9, Try.ntmps9
  go_wp2_with fail
  refine (rCheck_any s _ hs).mono ?_
  rintro e w0 ⟨rfl, hb0⟩
  have HB0 := hide hb0
  clear hb0
  by_cases hzc : chkE s ≠ 0
  · have HP := hide (pk_eta' _ (pk_bad (id := id) (Z := Z) hzc))
    have hz2 : (chkE s != 0) = true := by simpa using hzc
    clear hzc
    go_wp2
    go_ret3
    exact ⟨by rw [(unhide HP).1, (unhide HP).2.1, (unhide HP).2.2]; rfl, unhide HB0⟩
  have hzc0 : chkE s = 0 := by omega
  have hz2 : (chkE s != 0) = false := by rw [hzc0]; rfl
  have hl320 : ¬ 320 < s.size := by
    intro hl
    rw [(chk_long hl).1] at hzc0; omega
  obtain ⟨M, hpd⟩ : ∃ M, pDb s 4 0 = .inr M := by
    cases hp : pDb s 4 0 with
    | inl p => rw [(chk_text hl320 hp).1] at hzc0; omega
    | inr M => exact ⟨M, rfl⟩
  have HZC := hide hzc0
  have HPD := hide hpd
  clear hzc hzc0 hpd
  go_wp2_with fail
  refine (rFind_any s id M _ (by omega) (unhide HPD)).mono ?_
  rintro e w1 ⟨hout, hb1⟩
  have HB1 := hide ((unhide HB0).trans (hb1.mono (unhide HB0).size))
  clear hb1
  rcases hout with ⟨hix, rfl⟩ | ⟨k, sv, hk, hix, rfl, hsv⟩
  · have HP := hide (pk_eta' _ (pk_id (Z := Z) (unhide HZC) (unhide HPD) hix))
    clear hix
    go_wp2
    go_ret3
    exact ⟨by rw [(unhide HP).1, (unhide HP).2.1, (unhide HP).2.2]; rfl, (unhide HB1).alloc (unhide HB1).size _⟩
  obtain ⟨m, hm⟩ : ∃ m, m = mAt M k := ⟨_, rfl⟩
  have HPK := hide (pk_msg (Z := Z) (unhide HZC) (unhide HPD) hix)
  have HG := hide (good_of (unhide HPD) hk).2
  have hmo := (good_of (unhide HPD) hk).1
  have HAF := hide (sound_fits (unhide HZC) (unhide HPD) hk)
  have HWI := hide (sound_within (unhide HZC) (unhide HPD) hk)
  rw [← hm] at hsv hmo HPK HG HAF HWI
  rw [← hm]
  have HMO := hide hmo
  have hlen8 := hmo.len
  have hsz0 := hmo.sz0
  have hsz1 := hmo.sz1
  have HSN := hide (show ((m.sz.toNat : Nat) : Int) = m.sz from Int.toNat_of_nonneg hmo.sz0)
  obtain ⟨va, vcap, rfl⟩ := ownsRow_form hsv
  have HSV := hide hsv
  clear hix hsv hmo hm hk hl320 hz2
  by_cases hln : Z.length = m.sigs.length
  · have hl2 : ((Z.length : Int) != (m.sigs.length : Int)) = false := by rw [hln]; simp
    have HLN := hide hln
    have hle1 : Z.length ≤ m.sigs.length := by omega
    have hle2 : m.sigs.length ≤ Z.length := by omega
    clear hln
    have HC : Hid (IntsAt w1 (.slice za Z.length zcap) Z) := hide ((unhide HZZ).below (unhide HB1))
    go_wp2_with fail
    refine (rChosen_any m.id m.sz m.pl _ _ m.sigs Z _ (ownsRow_below (unhide HSV) ((Below.refl _ _).alloc (Nat.le_refl _) _)) hlen8 ((unhide HC).below ((Below.refl _ _).alloc (Nat.le_refl _) _)) (unhide HLN)).mono ?_
    rintro e w2 ⟨rfl, hb2⟩
    obtain ⟨c, HCC⟩ : ∃ c, Hid (c = choiceOf m.sigs Z) := ⟨_, hide rfl⟩
    rw [← unhide HCC]
    rw [pkMsg, ← unhide HCC] at HPK
    have HP9 : Hid (∀ u : Int, firstUn m.sigs Z c = u → 0 ≤ u → pk s id Z = (noBytes, 9, u)) := hide (fun u hu h0 => by rw [unhide HPK, if_neg (by rw [unhide HLN]; simp), hu, if_pos h0])
    have HP0 : Hid (firstUn m.sigs Z c < 0 → pk s id Z = (payB (bitsTo m.sigs Z c m.sigs.length) m.sz.toNat, 0, 0)) := hide (fun h0 => by rw [unhide HPK, if_neg (by rw [unhide HLN]; simp), if_neg (by omega)])
    have HB2 : Hid (Below (w1.heap.size + 1) (w1.alloc (.cells #[.string m.id, .int .i64 m.sz, .slice va m.sigs.length vcap, .int .i64 m.pl] 56)) w2) := hide (hb2.mono (by simp))
    have hbox := fun (wx : World) (h : Below (w1.heap.size + 1) (w1.alloc (.cells #[.string m.id, .int .i64 m.sz, .slice va m.sigs.length vcap, .int .i64 m.pl] 56)) wx) => box_cell h
    have HSG := HSV
    clear hb2 HPK
    have hbw := hbox _ (unhide HB2)
    go_wp2
    clear hbw
    go_loopw [14, 15] (fun i _ wr => ∃ k : Nat, k ≤ m.sigs.length ∧ i = .int .i64 k ∧ (∀ j, j < k → unfit m.sigs Z c j = false) ∧ Below (w1.heap.size + 1) (w1.alloc (.cells #[.string m.id, .int .i64 m.sz, .slice va m.sigs.length vcap, .int .i64 m.pl] 56)) wr) (fun i _ _ => m.sigs.length - (intOf i).toNat)
    case atStart => exact ⟨0, by omega, rfl, by intro j hj; omega, unhide HB2⟩
    case round =>
      obtain ⟨k, hk, rfl, hno, hb⟩ := hrel
      have HN := hide hno
      have hbw := hbox _ hb
      clear hno
      by_cases hlt : k < m.sigs.length
      · obtain ⟨ok, r0, r1⟩ := (unhide HG).2 k hlt
        have OK := hide ok
        have hi0 : (0 : Int) ≤ (k : Int) := by omega
        have hi1 : (k : Int) < (m.sigs.length : Int) := by omega
        have hi2 : (k : Int) < (Z.length : Int) := by omega
        have HB := hide hb
        clear ok hb
        go_wp2_with fail
        refine (rActive_any m.id m.sz m.pl _ m.sigs k c _ (ownsRow_below (unhide HSV) (box_below (unhide HB))) hlen8 hlt r0 r1).mono ?_
        rintro e w3 ⟨rfl, hb3⟩
        have hb3' := box_next (unhide HB) hb3
        clear hb3 hbw
        cases hac : activeB (sgAt m.sigs k).rl c with
        | false =>
          go_wp2
          refine wp_region_noPanic ?_
          refine wp_region_held_drew (S := fun w' => Below (w1.heap.size + 1) (w1.alloc (.cells #[.string m.id, .int .i64 m.sz, .slice va m.sigs.length vcap, .int .i64 m.pl] 56)) w') (by kernel_rfl) hb3'.drew (fun hHeld => ?_)
          refine wpAnyH_take (i := 0) (v := ?_) (at_list rfl) (by kernel_rfl) (by kernel_rfl) (by kernel_rfl) (fun _ _ _ h => h) (Or.inl ⟨by rfl, ?_⟩) (by assumption) ?_
          rotate_left
          · intro w hSw; (try dsimp only at hSw); first | (go_simp; done) | (go_simp; with_reducible rfl)
          try simp only [Act.put]
          try simp only [List.setIfInBounds_toArray]
          try simp only [List.set_cons_succ]
          try simp only [List.set_cons_zero]
          refine wpAnyH_take (i := 1) (v := ?_) (at_list rfl) (by kernel_rfl) (by kernel_rfl) (by kernel_rfl) (fun _ _ _ h => h) (Or.inl ⟨by rfl, ?_⟩) (by assumption) ?_
          rotate_left
          · intro w hSw; (try dsimp only at hSw); first | (go_simp; done) | (go_simp; with_reducible rfl)
          try simp only [Act.put]
          try simp only [List.setIfInBounds_toArray]
          try simp only [List.set_cons_succ]
          try simp only [List.set_cons_zero]
          refine wpAnyH_take (i := 2) (v := undef) (at_list rfl) (by kernel_rfl) (by kernel_rfl) (by kernel_rfl) (fun _ _ _ h => h) (Or.inr ⟨by rfl, rfl⟩) (by assumption) ?_
          try simp only [Act.put]
          try simp only [List.setIfInBounds_toArray]
          try simp only [List.set_cons_succ]
          try simp only [List.set_cons_zero]
          refine wpAnyH_take (i := 3) (v := undef) (at_list rfl) (by kernel_rfl) (by kernel_rfl) (by kernel_rfl) (fun _ _ _ h => h) (Or.inr ⟨by rfl, rfl⟩) (by assumption) ?_
          try simp only [Act.put]
          try simp only [List.setIfInBounds_toArray]
          try simp only [List.set_cons_succ]
          try simp only [List.set_cons_zero]
          refine wpAnyH_take (i := 4) (v := undef) (at_list rfl) (by kernel_rfl) (by kernel_rfl) (by kernel_rfl) (fun _ _ _ h => h) (Or.inr ⟨by rfl, rfl⟩) (by assumption) ?_
          try simp only [Act.put]
          try simp only [List.setIfInBounds_toArray]
          try simp only [List.set_cons_succ]
          try simp only [List.set_cons_zero]
          refine wpAnyH_take (i := 5) (v := undef) (at_list rfl) (by kernel_rfl) (by kernel_rfl) (by kernel_rfl) (fun _ _ _ h => h) (Or.inr ⟨by rfl, rfl⟩) (by assumption) ?_
          try simp only [Act.put]
          try simp only [List.setIfInBounds_toArray]
          try simp only [List.set_cons_succ]
          try simp only [List.set_cons_zero]
          refine wpAnyH_take (i := 6) (v := undef) (at_list rfl) (by kernel_rfl) (by kernel_rfl) (by kernel_rfl) (fun _ _ _ h => h) (Or.inr ⟨by rfl, rfl⟩) (by assumption) ?_
          try simp only [Act.put]
          try simp only [List.setIfInBounds_toArray]
          try simp only [List.set_cons_succ]
          try simp only [List.set_cons_zero]
          refine wpAnyH_take (i := 7) (v := undef) (at_list rfl) (by kernel_rfl) (by kernel_rfl) (by kernel_rfl) (fun _ _ _ h => h) (Or.inr ⟨by rfl, rfl⟩) (by assumption) ?_
          try simp only [Act.put]
          try simp only [List.setIfInBounds_toArray]
          try simp only [List.set_cons_succ]
          try simp only [List.set_cons_zero]
          refine wpAnyH_take (i := 8) (v := undef) (at_list rfl) (by kernel_rfl) (by kernel_rfl) (by kernel_rfl) (fun _ _ _ h => h) (Or.inr ⟨by rfl, rfl⟩) (by assumption) ?_
          try simp only [Act.put]
          try simp only [List.setIfInBounds_toArray]
          try simp only [List.set_cons_succ]
          try simp only [List.set_cons_zero]
          refine wpAnyH_take (i := 9) (v := undef) (at_list rfl) (by kernel_rfl) (by kernel_rfl) (by kernel_rfl) (fun _ _ _ h => h) (Or.inr ⟨by rfl, rfl⟩) (by assumption) ?_
          try simp only [Act.put]
          try simp only [List.setIfInBounds_toArray]
          try simp only [List.set_cons_succ]
          try simp only [List.set_cons_zero]
          refine wpAnyH_take (i := 10) (v := undef) (at_list rfl) (by kernel_rfl) (by kernel_rfl) (by kernel_rfl) (fun _ _ _ h => h) (Or.inr ⟨by rfl, rfl⟩) (by assumption) ?_
          try simp only [Act.put]
          try simp only [List.setIfInBounds_toArray]
          try simp only [List.set_cons_succ]
          try simp only [List.set_cons_zero]
          refine wpAnyH_take (i := 11) (v := undef) (at_list rfl) (by kernel_rfl) (by kernel_rfl) (by kernel_rfl) (fun _ _ _ h => h) (Or.inr ⟨by rfl, rfl⟩) (by assumption) ?_
          try simp only [Act.put]
          try simp only [List.setIfInBounds_toArray]
          try simp only [List.set_cons_succ]
          try simp only [List.set_cons_zero]
          refine wpAnyH_take (i := 12) (v := undef) (at_list rfl) (by kernel_rfl) (by kernel_rfl) (by kernel_rfl) (fun _ _ _ h => h) (Or.inr ⟨by rfl, rfl⟩) (by assumption) ?_
          try simp only [Act.put]
          try simp only [List.setIfInBounds_toArray]
          try simp only [List.set_cons_succ]
          try simp only [List.set_cons_zero]
          refine wpAnyH_take (i := 13) (v := undef) (at_list rfl) (by kernel_rfl) (by kernel_rfl) (by kernel_rfl) (fun _ _ _ h => h) (Or.inr ⟨by rfl, rfl⟩) (by assumption) ?_
          try simp only [Act.put]
          try simp only [List.setIfInBounds_toArray]
          try simp only [List.set_cons_succ]
          try simp only [List.set_cons_zero]
          refine wpAnyH_take (i := 14) (v := undef) (at_list rfl) (by kernel_rfl) (by kernel_rfl) (by kernel_rfl) (fun _ _ _ h => h) (Or.inr ⟨by rfl, rfl⟩) (by assumption) ?_
          try simp only [Act.put]
          try simp only [List.setIfInBounds_toArray]
          try simp only [List.set_cons_succ]
          try simp only [List.set_cons_zero]
          refine wpAnyH_take (i := 15) (v := undef) (at_list rfl) (by kernel_rfl) (by kernel_rfl) (by kernel_rfl) (fun _ _ _ h => h) (Or.inr ⟨by rfl, rfl⟩) (by assumption) ?_
          try simp only [Act.put]
          try simp only [List.setIfInBounds_toArray]
          try simp only [List.set_cons_succ]
          try simp only [List.set_cons_zero]
          refine wpAnyH_take (i := 16) (v := undef) (at_list rfl) (by kernel_rfl) (by kernel_rfl) (by kernel_rfl) (fun _ _ _ h => h) (Or.inr ⟨by rfl, rfl⟩) (by assumption) ?_
          try simp only [Act.put]
          try simp only [List.setIfInBounds_toArray]
          try simp only [List.set_cons_succ]
          try simp only [List.set_cons_zero]
          refine wpAnyH_take (i := 17) (v := undef) (at_list rfl) (by kernel_rfl) (by kernel_rfl) (by kernel_rfl) (fun _ _ _ h => h) (Or.inr ⟨by rfl, rfl⟩) (by assumption) ?_
          try simp only [Act.put]
          try simp only [List.setIfInBounds_toArray]
          try simp only [List.set_cons_succ]
          try simp only [List.set_cons_zero]
          refine wpAnyH_take (i := 18) (v := undef) (at_list rfl) (by kernel_rfl) (by kernel_rfl) (by kernel_rfl) (fun _ _ _ h => h) (Or.inr ⟨by rfl, rfl⟩) (by assumption) ?_
          try simp only [Act.put]
          try simp only [List.setIfInBounds_toArray]
          try simp only [List.set_cons_succ]
          try simp only [List.set_cons_zero]
          refine wpAnyH_take (i := 19) (v := undef) (at_list rfl) (by kernel_rfl) (by kernel_rfl) (by kernel_rfl) (fun _ _ _ h => h) (Or.inr ⟨by rfl, rfl⟩) (by assumption) ?_
          try simp only [Act.put]
          try simp only [List.setIfInBounds_toArray]
          try simp only [List.set_cons_succ]
          try simp only [List.set_cons_zero]
          refine wpAnyH_take (i := 20) (v := ?_) (at_list rfl) (by kernel_rfl) (by kernel_rfl) (by kernel_rfl) (fun _ _ _ h => h) (Or.inl ⟨by rfl, ?_⟩) (by assumption) ?_
          rotate_left
          · intro w hSw; (try dsimp only at hSw); first | (go_simp; done) | (go_simp; with_reducible rfl)
          try simp only [Act.put]
          try simp only [List.setIfInBounds_toArray]
          try simp only [List.set_cons_succ]
          try simp only [List.set_cons_zero]
          refine wpAnyH_done (by kernel_rfl) ?_ _
          refine NoPanic.normal ?_
          go_wp2
          go_roundw
          case rel => exact ⟨k + 1, by omega, by go_num, fun j hj => by
              by_cases e : j = k
              · subst e; rw [unfit, hac]; rfl
              · exact unhide HN j (by omega), by assumption⟩
          case measure => simp [intOf]; omega
        | true =>
          rcases (unhide HSG).opened with ⟨hnil, _⟩ | ⟨g2, cap2, hv2, hg2, hcap2, hcm2, hc2⟩
          · rw [hnil] at hlt; simp at hlt
          cases hv2
          cases za with
          | none => have := unhide HZ2 rfl; omega
          | some xa =>
            have HC2 := hide hc2
            have HX := hide (unhide HZ3 xa rfl)
            clear hc2
            have cn := fun (wx : World) (h : Below (w1.heap.size + 1) (w1.alloc (.cells #[.string m.id, .int .i64 m.sz, .slice (some ⟨g2, 0, none⟩) m.sigs.length vcap, .int .i64 m.pl] 56)) wx) => rcells7 (k := k) (unhide HC2) hg2 (box_below h) hlt
            have zn := fun (wx : World) (h : Below (w1.heap.size + 1) (w1.alloc (.cells #[.string m.id, .int .i64 m.sz, .slice (some ⟨g2, 0, none⟩) m.sigs.length vcap, .int .i64 m.pl] 56)) wx) => ints_cell (unhide HX) ((unhide HB1).trans ((box_below h).mono (unhide HB1).size)) (show k < Z.length by omega)
            cases hfi : fitsB (sgAt m.sigs k).kd (sgAt m.sigs k).ln (zAt Z k) with
            | true =>
              go_wp2
              refine wp_region_noPanic ?_
              refine wp_region_held_drew (S := fun w' => Below (w1.heap.size + 1) (w1.alloc (.cells #[.string m.id, .int .i64 m.sz, .slice (some ⟨g2, 0, none⟩) m.sigs.length vcap, .int .i64 m.pl] 56)) w') (by kernel_rfl) hb3'.drew (fun hHeld => ?_)
              refine wpAnyH_take (i := 0) (v := ?_) (at_list rfl) (by kernel_rfl) (by kernel_rfl) (by kernel_rfl) (fun _ _ _ h => h) (Or.inl ⟨by rfl, ?_⟩) (by assumption) ?_
              rotate_left
              · intro w hSw; (try dsimp only at hSw); first | (go_simp; done) | (go_simp; with_reducible rfl)
              try simp only [Act.put]
              try simp only [List.setIfInBounds_toArray]
              try simp only [List.set_cons_succ]
              try simp only [List.set_cons_zero]
              refine wpAnyH_take (i := 1) (v := ?_) (at_list rfl) (by kernel_rfl) (by kernel_rfl) (by kernel_rfl) (fun _ _ _ h => h) (Or.inl ⟨by rfl, ?_⟩) (by assumption) ?_
              rotate_left
              · intro w hSw; (try dsimp only at hSw); first | (go_simp; done) | (go_simp; with_reducible rfl)
              try simp only [Act.put]
              try simp only [List.setIfInBounds_toArray]
              try simp only [List.set_cons_succ]
              try simp only [List.set_cons_zero]
              refine wpAnyH_take (i := 2) (v := ?_) (at_list rfl) (by kernel_rfl) (by kernel_rfl) (by kernel_rfl) (fun _ _ _ h => h) (Or.inl ⟨by rfl, ?_⟩) (by assumption) ?_
              rotate_left
              · intro w hSw; (try dsimp only at hSw); first | (go_simp; done) | (go_simp; with_reducible rfl)
              try simp only [Act.put]
              try simp only [List.setIfInBounds_toArray]
              try simp only [List.set_cons_succ]
              try simp only [List.set_cons_zero]
              refine wpAnyH_take (i := 3) (v := ?_) (at_list rfl) (by kernel_rfl) (by kernel_rfl) (by kernel_rfl) (fun _ _ _ h => h) (Or.inl ⟨by rfl, ?_⟩) (by assumption) ?_
              rotate_left
              · intro w hSw; (try dsimp only at hSw); first | (go_simp; done) | (go_simp; with_reducible rfl)
              try simp only [Act.put]
              try simp only [List.setIfInBounds_toArray]
              try simp only [List.set_cons_succ]
              try simp only [List.set_cons_zero]
              refine wpAnyH_take (i := 4) (v := ?_) (at_list rfl) (by kernel_rfl) (by kernel_rfl) (by kernel_rfl) (fun _ _ _ h => h) (Or.inl ⟨by rfl, ?_⟩) (by assumption) ?_
              rotate_left
              · intro w hSw; (try dsimp only at hSw); first | (go_simp; done) | (go_simp; with_reducible rfl)
              try simp only [Act.put]
              try simp only [List.setIfInBounds_toArray]
              try simp only [List.set_cons_succ]
              try simp only [List.set_cons_zero]
              refine wpAnyH_take (i := 5) (v := ?_) (at_list rfl) (by kernel_rfl) (by kernel_rfl) (by kernel_rfl) (fun _ _ _ h => h) (Or.inl ⟨by rfl, ?_⟩) (by assumption) ?_
              rotate_left
              · intro w hSw; (try dsimp only at hSw); first | (go_simp; done) | (go_simp; with_reducible rfl)
              try simp only [Act.put]
              try simp only [List.setIfInBounds_toArray]
              try simp only [List.set_cons_succ]
              try simp only [List.set_cons_zero]
              refine wpAnyH_take (i := 6) (v := ?_) (at_list rfl) (by kernel_rfl) (by kernel_rfl) (by kernel_rfl) (fun _ _ _ h => h) (Or.inl ⟨by rfl, ?_⟩) (by assumption) ?_
              rotate_left
              · intro w hSw; (try dsimp only at hSw); first | (go_simp; done) | (go_simp; with_reducible rfl)
              try simp only [Act.put]
              try simp only [List.setIfInBounds_toArray]
              try simp only [List.set_cons_succ]
              try simp only [List.set_cons_zero]
              refine wpAnyH_take (i := 7) (v := ?_) (at_list rfl) (by kernel_rfl) (by kernel_rfl) (by kernel_rfl) (fun _ _ _ h => h) (Or.inl ⟨by rfl, ?_⟩) (by assumption) ?_
              rotate_left
              · intro w hSw; (try dsimp only at hSw); first | (go_simp; done) | (go_simp; with_reducible rfl)
              try simp only [Act.put]
              try simp only [List.setIfInBounds_toArray]
              try simp only [List.set_cons_succ]
              try simp only [List.set_cons_zero]
              refine wpAnyH_take (i := 8) (v := ?_) (at_list rfl) (by kernel_rfl) (by kernel_rfl) (by kernel_rfl) (fun _ _ _ h => h) (Or.inl ⟨by rfl, ?_⟩) (by assumption) ?_
              rotate_left
              · intro w hSw; (try dsimp only at hSw); first | (go_simp; done) | (go_simp; with_reducible rfl)
              try simp only [Act.put]
              try simp only [List.setIfInBounds_toArray]
              try simp only [List.set_cons_succ]
              try simp only [List.set_cons_zero]
              refine wpAnyH_take (i := 9) (v := ?_) (at_list rfl) (by kernel_rfl) (by kernel_rfl) (by kernel_rfl) (fun _ _ _ h => h) (Or.inl ⟨by rfl, ?_⟩) (by assumption) ?_
              rotate_left
              · intro w hSw; (try dsimp only at hSw); first | (go_simp; done) | (go_simp; with_reducible rfl)
              try simp only [Act.put]
              try simp only [List.setIfInBounds_toArray]
              try simp only [List.set_cons_succ]
              try simp only [List.set_cons_zero]
              refine wpAnyH_take (i := 10) (v := ?_) (at_list rfl) (by kernel_rfl) (by kernel_rfl) (by kernel_rfl) (fun _ _ _ h => h) (Or.inl ⟨by rfl, ?_⟩) (by assumption) ?_
              rotate_left
              · intro w hSw; (try dsimp only at hSw); first | (go_simp; done) | (go_simp; with_reducible rfl)
              try simp only [Act.put]
              try simp only [List.setIfInBounds_toArray]
              try simp only [List.set_cons_succ]
              try simp only [List.set_cons_zero]
              refine wpAnyH_take (i := 11) (v := ?_) (at_list rfl) (by kernel_rfl) (by kernel_rfl) (by kernel_rfl) (fun _ _ _ h => h) (Or.inl ⟨by rfl, ?_⟩) (by assumption) ?_
              rotate_left
              · intro w hSw; (try dsimp only at hSw); first | (go_simp; done) | (go_simp; with_reducible rfl)
              try simp only [Act.put]
              try simp only [List.setIfInBounds_toArray]
              try simp only [List.set_cons_succ]
              try simp only [List.set_cons_zero]
              refine wpAnyH_take (i := 12) (v := ?_) (at_list rfl) (by kernel_rfl) (by kernel_rfl) (by kernel_rfl) (fun _ _ _ h => h) (Or.inl ⟨by rfl, ?_⟩) (by assumption) ?_
              rotate_left
              · intro w hSw; (try dsimp only at hSw); first | (go_simp; done) | (go_simp; with_reducible rfl)
              try simp only [Act.put]
              try simp only [List.setIfInBounds_toArray]
              try simp only [List.set_cons_succ]
              try simp only [List.set_cons_zero]
              refine wpAnyH_take (i := 13) (v := ?_) (at_list rfl) (by kernel_rfl) (by kernel_rfl) (by kernel_rfl) (fun _ _ _ h => h) (Or.inl ⟨by rfl, ?_⟩) (by assumption) ?_
              rotate_left
              · intro w hSw; (try dsimp only at hSw); first | (go_simp; done) | (go_simp; with_reducible rfl)
              try simp only [Act.put]
              try simp only [List.setIfInBounds_toArray]
              try simp only [List.set_cons_succ]
              try simp only [List.set_cons_zero]
              refine wpAnyH_take (i := 14) (v := ?_) (at_list rfl) (by kernel_rfl) (by kernel_rfl) (by kernel_rfl) (fun _ _ _ h => h) (Or.inl ⟨by rfl, ?_⟩) (by assumption) ?_
              rotate_left
              · intro w hSw; (try dsimp only at hSw); first | (go_simp; done) | (go_simp; with_reducible rfl)
              try simp only [Act.put]
              try simp only [List.setIfInBounds_toArray]
              try simp only [List.set_cons_succ]
              try simp only [List.set_cons_zero]
              refine wpAnyH_take (i := 15) (v := ?_) (at_list rfl) (by kernel_rfl) (by kernel_rfl) (by kernel_rfl) (fun _ _ _ h => h) (Or.inl ⟨by rfl, ?_⟩) (by assumption) ?_
              rotate_left
              · intro w hSw; (try dsimp only at hSw); first | (go_simp; done) | (go_simp; with_reducible rfl)
              try simp only [Act.put]
              try simp only [List.setIfInBounds_toArray]
              try simp only [List.set_cons_succ]
              try simp only [List.set_cons_zero]
              refine wpAnyH_take (i := 16) (v := ?_) (at_list rfl) (by kernel_rfl) (by kernel_rfl) (by kernel_rfl) (fun _ _ _ h => h) (Or.inl ⟨by rfl, ?_⟩) (by assumption) ?_
              rotate_left
              · intro w hSw; (try dsimp only at hSw); first | (go_simp; done) | (go_simp; with_reducible rfl)
              try simp only [Act.put]
              try simp only [List.setIfInBounds_toArray]
              try simp only [List.set_cons_succ]
              try simp only [List.set_cons_zero]
              refine wpAnyH_take (i := 17) (v := ?_) (at_list rfl) (by kernel_rfl) (by kernel_rfl) (by kernel_rfl) (fun _ _ _ h => h) (Or.inl ⟨by rfl, ?_⟩) (by assumption) ?_
              rotate_left
              · intro w hSw; (try dsimp only at hSw); first | (go_simp; done) | (go_simp; with_reducible rfl)
              try simp only [Act.put]
              try simp only [List.setIfInBounds_toArray]
              try simp only [List.set_cons_succ]
              try simp only [List.set_cons_zero]
              refine wpAnyH_ready (rs := [18]) (by kernel_rfl) (by simp) ?_
              refine AllReadyH.cons (at_list rfl) (fun K hK => ?_) AllReadyH.nil
              go_simp
              refine (rFits_any (zAt Z k) (sgAt m.sigs k).ln (sgAt m.sigs k).kd _ (unhide OK).ln0 (unhide OK).ln1 (unhide OK).kd).mono ?_; rintro e w4 ⟨rfl, rfl⟩; dsimp only
              refine hK.out _ _ (hHeld) (fun hHeld => ?_)
              clear hK K
              try simp only [Act.put]
              try simp only [List.setIfInBounds_toArray]
              try simp only [List.set_cons_succ]
              try simp only [List.set_cons_zero]
              refine wpAnyH_take (i := 19) (v := ?_) (at_list rfl) (by kernel_rfl) (by kernel_rfl) (by kernel_rfl) (fun _ _ _ h => h) (Or.inl ⟨by rfl, ?_⟩) (by assumption) ?_
              rotate_left
              · intro w hSw; (try dsimp only at hSw); first | (go_simp; done) | (go_simp; with_reducible rfl)
              try simp only [Act.put]
              try simp only [List.setIfInBounds_toArray]
              try simp only [List.set_cons_succ]
              try simp only [List.set_cons_zero]
              refine wpAnyH_take (i := 20) (v := ?_) (at_list rfl) (by kernel_rfl) (by kernel_rfl) (by kernel_rfl) (fun _ _ _ h => h) (Or.inl ⟨by rfl, ?_⟩) (by assumption) ?_
              rotate_left
              · intro w hSw; (try dsimp only at hSw); first | (go_simp; done) | (go_simp; with_reducible rfl)
              try simp only [Act.put]
              try simp only [List.setIfInBounds_toArray]
              try simp only [List.set_cons_succ]
              try simp only [List.set_cons_zero]
              refine wpAnyH_done (by kernel_rfl) ?_ _
              refine NoPanic.normal ?_
              clear cn zn
              go_wp2
              go_roundw
              case rel => exact ⟨k + 1, by omega, by go_num, fun j hj => by
                  by_cases e : j = k
                  · subst e; rw [unfit, hfi]; simp
                  · exact unhide HN j (by omega), by assumption⟩
              case measure => simp [intOf]; omega
            | false =>
              go_wp2
              refine wp_region_noPanic ?_
              refine wp_region_held_drew (S := fun w' => Below (w1.heap.size + 1) (w1.alloc (.cells #[.string m.id, .int .i64 m.sz, .slice (some ⟨g2, 0, none⟩) m.sigs.length vcap, .int .i64 m.pl] 56)) w') (by kernel_rfl) hb3'.drew (fun hHeld => ?_)
              refine wpAnyH_take (i := 0) (v := ?_) (at_list rfl) (by kernel_rfl) (by kernel_rfl) (by kernel_rfl) (fun _ _ _ h => h) (Or.inl ⟨by rfl, ?_⟩) (by assumption) ?_
              rotate_left
              · intro w hSw; (try dsimp only at hSw); first | (go_simp; done) | (go_simp; with_reducible rfl)
              try simp only [Act.put]
              try simp only [List.setIfInBounds_toArray]
              try simp only [List.set_cons_succ]
              try simp only [List.set_cons_zero]
              refine wpAnyH_take (i := 1) (v := ?_) (at_list rfl) (by kernel_rfl) (by kernel_rfl) (by kernel_rfl) (fun _ _ _ h => h) (Or.inl ⟨by rfl, ?_⟩) (by assumption) ?_
              rotate_left
              · intro w hSw; (try dsimp only at hSw); first | (go_simp; done) | (go_simp; with_reducible rfl)
              try simp only [Act.put]
              try simp only [List.setIfInBounds_toArray]
              try simp only [List.set_cons_succ]
              try simp only [List.set_cons_zero]
              refine wpAnyH_take (i := 2) (v := ?_) (at_list rfl) (by kernel_rfl) (by kernel_rfl) (by kernel_rfl) (fun _ _ _ h => h) (Or.inl ⟨by rfl, ?_⟩) (by assumption) ?_
              rotate_left
              · intro w hSw; (try dsimp only at hSw); first | (go_simp; done) | (go_simp; with_reducible rfl)
              try simp only [Act.put]
              try simp only [List.setIfInBounds_toArray]
              try simp only [List.set_cons_succ]
              try simp only [List.set_cons_zero]
              refine wpAnyH_take (i := 3) (v := ?_) (at_list rfl) (by kernel_rfl) (by kernel_rfl) (by kernel_rfl) (fun _ _ _ h => h) (Or.inl ⟨by rfl, ?_⟩) (by assumption) ?_
              rotate_left
              · intro w hSw; (try dsimp only at hSw); first | (go_simp; done) | (go_simp; with_reducible rfl)
              try simp only [Act.put]
              try simp only [List.setIfInBounds_toArray]
              try simp only [List.set_cons_succ]
              try simp only [List.set_cons_zero]
              refine wpAnyH_take (i := 4) (v := ?_) (at_list rfl) (by kernel_rfl) (by kernel_rfl) (by kernel_rfl) (fun _ _ _ h => h) (Or.inl ⟨by rfl, ?_⟩) (by assumption) ?_
              rotate_left
              · intro w hSw; (try dsimp only at hSw); first | (go_simp; done) | (go_simp; with_reducible rfl)
              try simp only [Act.put]
              try simp only [List.setIfInBounds_toArray]
              try simp only [List.set_cons_succ]
              try simp only [List.set_cons_zero]
              refine wpAnyH_take (i := 5) (v := ?_) (at_list rfl) (by kernel_rfl) (by kernel_rfl) (by kernel_rfl) (fun _ _ _ h => h) (Or.inl ⟨by rfl, ?_⟩) (by assumption) ?_
              rotate_left
              · intro w hSw; (try dsimp only at hSw); first | (go_simp; done) | (go_simp; with_reducible rfl)
              try simp only [Act.put]
              try simp only [List.setIfInBounds_toArray]
              try simp only [List.set_cons_succ]
              try simp only [List.set_cons_zero]
              refine wpAnyH_take (i := 6) (v := ?_) (at_list rfl) (by kernel_rfl) (by kernel_rfl) (by kernel_rfl) (fun _ _ _ h => h) (Or.inl ⟨by rfl, ?_⟩) (by assumption) ?_
              rotate_left
              · intro w hSw; (try dsimp only at hSw); first | (go_simp; done) | (go_simp; with_reducible rfl)
              try simp only [Act.put]
              try simp only [List.setIfInBounds_toArray]
              try simp only [List.set_cons_succ]
              try simp only [List.set_cons_zero]
              refine wpAnyH_take (i := 7) (v := ?_) (at_list rfl) (by kernel_rfl) (by kernel_rfl) (by kernel_rfl) (fun _ _ _ h => h) (Or.inl ⟨by rfl, ?_⟩) (by assumption) ?_
              rotate_left
              · intro w hSw; (try dsimp only at hSw); first | (go_simp; done) | (go_simp; with_reducible rfl)
              try simp only [Act.put]
              try simp only [List.setIfInBounds_toArray]
              try simp only [List.set_cons_succ]
              try simp only [List.set_cons_zero]
              refine wpAnyH_take (i := 8) (v := ?_) (at_list rfl) (by kernel_rfl) (by kernel_rfl) (by kernel_rfl) (fun _ _ _ h => h) (Or.inl ⟨by rfl, ?_⟩) (by assumption) ?_
              rotate_left
              · intro w hSw; (try dsimp only at hSw); first | (go_simp; done) | (go_simp; with_reducible rfl)
              try simp only [Act.put]
              try simp only [List.setIfInBounds_toArray]
              try simp only [List.set_cons_succ]
              try simp only [List.set_cons_zero]
              refine wpAnyH_take (i := 9) (v := ?_) (at_list rfl) (by kernel_rfl) (by kernel_rfl) (by kernel_rfl) (fun _ _ _ h => h) (Or.inl ⟨by rfl, ?_⟩) (by assumption) ?_
              rotate_left
              · intro w hSw; (try dsimp only at hSw); first | (go_simp; done) | (go_simp; with_reducible rfl)
              try simp only [Act.put]
              try simp only [List.setIfInBounds_toArray]
              try simp only [List.set_cons_succ]
              try simp only [List.set_cons_zero]
              refine wpAnyH_take (i := 10) (v := ?_) (at_list rfl) (by kernel_rfl) (by kernel_rfl) (by kernel_rfl) (fun _ _ _ h => h) (Or.inl ⟨by rfl, ?_⟩) (by assumption) ?_
              rotate_left
              · intro w hSw; (try dsimp only at hSw); first | (go_simp; done) | (go_simp; with_reducible rfl)
              try simp only [Act.put]
              try simp only [List.setIfInBounds_toArray]
              try simp only [List.set_cons_succ]
              try simp only [List.set_cons_zero]
              refine wpAnyH_take (i := 11) (v := ?_) (at_list rfl) (by kernel_rfl) (by kernel_rfl) (by kernel_rfl) (fun _ _ _ h => h) (Or.inl ⟨by rfl, ?_⟩) (by assumption) ?_
              rotate_left
              · intro w hSw; (try dsimp only at hSw); first | (go_simp; done) | (go_simp; with_reducible rfl)
              try simp only [Act.put]
              try simp only [List.setIfInBounds_toArray]
              try simp only [List.set_cons_succ]
              try simp only [List.set_cons_zero]
              refine wpAnyH_take (i := 12) (v := ?_) (at_list rfl) (by kernel_rfl) (by kernel_rfl) (by kernel_rfl) (fun _ _ _ h => h) (Or.inl ⟨by rfl, ?_⟩) (by assumption) ?_
              rotate_left
              · intro w hSw; (try dsimp only at hSw); first | (go_simp; done) | (go_simp; with_reducible rfl)
              try simp only [Act.put]
              try simp only [List.setIfInBounds_toArray]
              try simp only [List.set_cons_succ]
              try simp only [List.set_cons_zero]
              refine wpAnyH_take (i := 13) (v := ?_) (at_list rfl) (by kernel_rfl) (by kernel_rfl) (by kernel_rfl) (fun _ _ _ h => h) (Or.inl ⟨by rfl, ?_⟩) (by assumption) ?_
              rotate_left
              · intro w hSw; (try dsimp only at hSw); first | (go_simp; done) | (go_simp; with_reducible rfl)
              try simp only [Act.put]
              try simp only [List.setIfInBounds_toArray]
              try simp only [List.set_cons_succ]
              try simp only [List.set_cons_zero]
              refine wpAnyH_take (i := 14) (v := ?_) (at_list rfl) (by kernel_rfl) (by kernel_rfl) (by kernel_rfl) (fun _ _ _ h => h) (Or.inl ⟨by rfl, ?_⟩) (by assumption) ?_
              rotate_left
              · intro w hSw; (try dsimp only at hSw); first | (go_simp; done) | (go_simp; with_reducible rfl)
              try simp only [Act.put]
              try simp only [List.setIfInBounds_toArray]
              try simp only [List.set_cons_succ]
              try simp only [List.set_cons_zero]
              refine wpAnyH_take (i := 15) (v := ?_) (at_list rfl) (by kernel_rfl) (by kernel_rfl) (by kernel_rfl) (fun _ _ _ h => h) (Or.inl ⟨by rfl, ?_⟩) (by assumption) ?_
              rotate_left
              · intro w hSw; (try dsimp only at hSw); first | (go_simp; done) | (go_simp; with_reducible rfl)
              try simp only [Act.put]
              try simp only [List.setIfInBounds_toArray]
              try simp only [List.set_cons_succ]
              try simp only [List.set_cons_zero]
              refine wpAnyH_take (i := 16) (v := ?_) (at_list rfl) (by kernel_rfl) (by kernel_rfl) (by kernel_rfl) (fun _ _ _ h => h) (Or.inl ⟨by rfl, ?_⟩) (by assumption) ?_
              rotate_left
              · intro w hSw; (try dsimp only at hSw); first | (go_simp; done) | (go_simp; with_reducible rfl)
              try simp only [Act.put]
              try simp only [List.setIfInBounds_toArray]
              try simp only [List.set_cons_succ]
              try simp only [List.set_cons_zero]
              refine wpAnyH_take (i := 17) (v := ?_) (at_list rfl) (by kernel_rfl) (by kernel_rfl) (by kernel_rfl) (fun _ _ _ h => h) (Or.inl ⟨by rfl, ?_⟩) (by assumption) ?_
              rotate_left
              · intro w hSw; (try dsimp only at hSw); first | (go_simp; done) | (go_simp; with_reducible rfl)
              try simp only [Act.put]
              try simp only [List.setIfInBounds_toArray]
              try simp only [List.set_cons_succ]
              try simp only [List.set_cons_zero]
              refine wpAnyH_ready (rs := [18]) (by kernel_rfl) (by simp) ?_
              refine AllReadyH.cons (at_list rfl) (fun K hK => ?_) AllReadyH.nil
              go_simp
              refine (rFits_any (zAt Z k) (sgAt m.sigs k).ln (sgAt m.sigs k).kd _ (unhide OK).ln0 (unhide OK).ln1 (unhide OK).kd).mono ?_; rintro e w4 ⟨rfl, rfl⟩; dsimp only
              refine hK.out _ _ (hHeld) (fun hHeld => ?_)
              clear hK K
              try simp only [Act.put]
              try simp only [List.setIfInBounds_toArray]
              try simp only [List.set_cons_succ]
              try simp only [List.set_cons_zero]
              refine wpAnyH_take (i := 19) (v := ?_) (at_list rfl) (by kernel_rfl) (by kernel_rfl) (by kernel_rfl) (fun _ _ _ h => h) (Or.inl ⟨by rfl, ?_⟩) (by assumption) ?_
              rotate_left
              · intro w hSw; (try dsimp only at hSw); first | (go_simp; done) | (go_simp; with_reducible rfl)
              try simp only [Act.put]
              try simp only [List.setIfInBounds_toArray]
              try simp only [List.set_cons_succ]
              try simp only [List.set_cons_zero]
              refine wpAnyH_take (i := 20) (v := ?_) (at_list rfl) (by kernel_rfl) (by kernel_rfl) (by kernel_rfl) (fun _ _ _ h => h) (Or.inl ⟨by rfl, ?_⟩) (by assumption) ?_
              rotate_left
              · intro w hSw; (try dsimp only at hSw); first | (go_simp; done) | (go_simp; with_reducible rfl)
              try simp only [Act.put]
              try simp only [List.setIfInBounds_toArray]
              try simp only [List.set_cons_succ]
              try simp only [List.set_cons_zero]
              refine wpAnyH_done (by kernel_rfl) ?_ _
              refine NoPanic.normal ?_
              clear cn zn
              go_wp2
              go_ret3
              have hfu : firstUn m.sigs Z c = k := findIx_is (unhide HN) hlt (by rw [unfit, hac, hfi]; rfl)
              have hpk := pk_eta' _ (unhide HP9 _ hfu (by omega))
              exact ⟨by rw [hpk.1, hpk.2.1, hpk.2.2]; rfl, (unhide HB1).trans ((box_below (by assumption)).mono (unhide HB1).size)⟩
      · have hfu : firstUn m.sigs Z c < 0 := by rw [firstUn, findIx_none (fun j hj => unhide HN j (by omega))]; omega
        have HFU := hide hfu
        have HB := hide hb
        clear hfu hb
        go_wp2_with (at_make; refine wpList_make_full _ rfl _ _ 64 rfl (w1.heap.size + 1) 5 i0 (.int .u8 0) 1 Try.underlying64 (unhide HINF) (unhide HZ0) (unhide HZ1) .i64 .i64 m.sz m.sz m.sz.toNat rfl rfl (unhide HSN).symm (unhide HSN).symm (by rw [unhide HZB]; omega) (by unfold maxLen; omega) (by have := (unhide HB).size; simp at this; omega) ?_)
        intro w3 hown hgrow
        have HB3 := hide (Below.grown (unhide HB) hgrow (by have := (unhide HB).size; simp at this; omega) (by simp))
        have HROW : Hid (w3.ownsRow (w1.heap.size + 1) 5 1 (.slice (some ⟨wr.heap.size, 0, none⟩) m.sz.toNat m.sz.toNat) m.sz.toNat ((bytesL (bitsTo m.sigs Z c 0) m.sz.toNat).map (Value.int .u8))) := hide (by rw [toList_madeCells_one] at hown; rw [bytesL_zero]; exact hown)
        clear hown hgrow hbw
        have hbw := hbox _ (unhide HB3)
        obtain ⟨wo, rfl⟩ : ∃ wo : World, wo = wr := ⟨_, rfl⟩
        go_wp2
        clear hbw
        go_loopw [17, 18, 19, 20, 21] (fun i _ _ _ _ wr => ∃ k : Nat, k ≤ m.sigs.length ∧ i = .int .i64 k ∧ wr.ownsRow (w1.heap.size + 1) 5 1 (.slice (some ⟨wo.heap.size, 0, none⟩) m.sz.toNat m.sz.toNat) m.sz.toNat ((bytesL (bitsTo m.sigs Z c k) m.sz.toNat).map (Value.int .u8)) ∧ Below (w1.heap.size + 1) (w1.alloc (.cells #[.string m.id, .int .i64 m.sz, .slice va m.sigs.length vcap, .int .i64 m.pl] 56)) wr) (fun i _ _ _ _ _ => m.sigs.length - (intOf i).toNat)
        case atStart => exact ⟨0, by omega, rfl, unhide HROW, unhide HB3⟩
        case round =>
          obtain ⟨k, hk, rfl, hrow, hb⟩ := hrel
          have HR := hide hrow
          have HBk := hide hb
          have hbw := hbox _ hb
          clear hrow hb
          by_cases hlt : k < m.sigs.length
          · obtain ⟨ok, r0, r1⟩ := (unhide HG).2 k hlt
            have OK := hide ok
            have hi0 : (0 : Int) ≤ (k : Int) := by omega
            have hi1 : (k : Int) < (m.sigs.length : Int) := by omega
            have hi2 : (k : Int) < (Z.length : Int) := by omega
            clear ok
            go_wp2_with fail
            refine (rActive_any m.id m.sz m.pl _ m.sigs k c _ (ownsRow_below (unhide HSV) (box_below (unhide HBk))) hlen8 hlt r0 r1).mono ?_
            rintro e w4 ⟨rfl, hb4⟩
            have HB4 := hide (box_next (unhide HBk) hb4)
            have HROW4 := hide (ownsRow_bel (unhide HR) hb4)
            clear hb4 hbw
            rcases (unhide HSG).opened with ⟨hnil, _⟩ | ⟨g2, cap2, hv2, hg2, hcap2, hcm2, hc2⟩
            · rw [hnil] at hlt; simp at hlt
            cases hv2
            cases za with
            | none => have := unhide HZ2 rfl; omega
            | some xa =>
              have HC2 := hide hc2
              have HX := hide (unhide HZ3 xa rfl)
              clear hc2
              have cn := fun (wx : World) (h : Below (w1.heap.size + 1) (w1.alloc (.cells #[.string m.id, .int .i64 m.sz, .slice (some ⟨g2, 0, none⟩) m.sigs.length vcap, .int .i64 m.pl] 56)) wx) => rcells7 (k := k) (unhide HC2) hg2 (box_below h) hlt
              have cnw := cn _ (unhide HB4)
              have hbw := hbox _ (unhide HB4)
              have znw := ints_cell (unhide HX) ((unhide HB1).trans ((box_below (unhide HB4)).mono (unhide HB1).size)) (show k < Z.length by omega)
              have hpw := pow_half (sgAt m.sigs k).ln (unhide OK).ln0
              have hhp := half_pos (sgAt m.sigs k).ln
              have hhu := half_le (sgAt m.sigs k).ln (unhide OK).ln1
              have hl0 := (unhide OK).ln0
              have hl1 := (unhide OK).ln1
              obtain ⟨hh, HH⟩ : ∃ x, Hid (x = half (sgAt m.sigs k).ln) := ⟨_, hide rfl⟩
              rw [← unhide HH] at hpw hhp hhu
              cases hac : activeB (sgAt m.sigs k).rl c with
              | false =>
                have HAC := hide hac
                by_cases hv : zAt Z k < 0
                · go_wp2
                  clear cnw znw
                  refine wp_loop_rounds 1 ?_
                  rw [rounds_succ]
                  go_wp2
                  go_roundw
                  case rel => exact ⟨k + 1, by omega, by go_num, by rw [bits_stay (unhide HAC)]; exact unhide HROW4, unhide HB4⟩
                  case measure => simp [intOf]; omega
                · go_wp2
                  clear cnw znw
                  refine wp_loop_rounds 1 ?_
                  rw [rounds_succ]
                  go_wp2
                  go_roundw
                  case rel => exact ⟨k + 1, by omega, by go_num, by rw [bits_stay (unhide HAC)]; exact unhide HROW4, unhide HB4⟩
                  case measure => simp [intOf]; omega
              | true =>
                have HAC := hide hac
                have HFB := hide (fitsB_bounds (firstUn_none (unhide HFU) k hlt hac))
                have hfl : -hh ≤ zAt Z k := by rw [unhide HH]; exact (unhide HFB).1
                have hfh : zAt Z k < 2 * hh := by rw [unhide HH]; exact (unhide HFB).2
                by_cases hv : zAt Z k < 0
                · have HNV := hide (show natural (sgAt m.sigs k).ln (zAt Z k) = zAt Z k + 2 * hh by rw [natural, if_pos hv, unhide HH])
                  have hnb := fun (j : Nat) (hj : (j : Int) < (sgAt m.sigs k).ln) => natural_bit (sgAt m.sigs k).ln (zAt Z k) j (unhide OK).ln0 (unhide OK).ln1 hj (unhide HFB).1 (unhide HFB).2
                  rw [unhide HNV] at hnb
                  have HNB := hide hnb
                  clear hnb
                  go_wp2
                  clear cnw znw
                  go_loopw [20, 21] (fun i _ wr => ∃ j : Nat, (j : Int) ≤ (sgAt m.sigs k).ln ∧ i = .int .i64 j ∧ wr.ownsRow (w1.heap.size + 1) 5 1 (.slice (some ⟨wo.heap.size, 0, none⟩) m.sz.toNat m.sz.toNat) m.sz.toNat ((bytesL (bitsTo m.sigs Z c k ||| layTo (sgAt m.sigs k).st (sgAt m.sigs k).ln (sgAt m.sigs k).od (zAt Z k) j) m.sz.toNat).map (Value.int .u8)) ∧ Below (w1.heap.size + 1) (w1.alloc (.cells #[.string m.id, .int .i64 m.sz, .slice (some ⟨g2, 0, none⟩) m.sigs.length vcap, .int .i64 m.pl] 56)) wr) (fun i _ _ => ((sgAt m.sigs k).ln - intOf i).toNat)
                  case atStart => exact ⟨0, by have := (unhide OK).ln0; omega, rfl, by simpa [layTo] using unhide HROW4, unhide HB4⟩
                  case round =>
                    obtain ⟨j, hj, rfl, hrow, hb5⟩ := hrel
                    have cnw := cn _ hb5
                    have hbw := hbox _ hb5
                    have HR := hide hrow
                    have HB5 := hide hb5
                    clear hrow hb5
                    by_cases hjl : (j : Int) < (sgAt m.sigs k).ln
                    · obtain ⟨n0, n1, n2⟩ := unhide HNB j hjl
                      have hd1 : (0 : Int) ≤ (zAt Z k + 2 * hh) / 2 ^ j := Int.ediv_nonneg n0 (Int.le_of_lt (Int.pow_pos (by omega)))
                      have hd2 : (zAt Z k + 2 * hh) / 2 ^ j ≤ (zAt Z k + 2 * hh) := Int.ediv_le_self _ n0
                      have hand := and_one_i64 ((zAt Z k + 2 * hh) / 2 ^ j) hd1 (by have := half_le (sgAt m.sigs k).ln (unhide OK).ln1; omega)
                      have hbl := bitv_lt (zAt Z k) j
                      by_cases hbv : bitv (zAt Z k) j = 1
                      · have hte : (bits BinOp.and IntKind.i64 ((zAt Z k + 2 * hh) / 2 ^ j) 1 == 1) = true := by rw [hand, n2, hbv]; rfl
                        have HLAY := hide (layTo_one (st := (sgAt m.sigs k).st) (ln := (sgAt m.sigs k).ln) (od := (sgAt m.sigs k).od) hbv)
                        clear hand n0 n1 n2 hd1 hd2 hbl hbv
                        go_wp2_with fail
                        refine (rBit_any _ (sgAt m.sigs k).st (sgAt m.sigs k).ln _ _ j (sgAt m.sigs k).od (sgAt m.sigs k).kd _ (unhide OK).st0 (unhide OK).st1 (unhide OK).ln0 (unhide OK).ln1 (unhide OK).od (by omega) hjl).mono ?_
                        rintro e w6 ⟨rfl, hb6⟩
                        have hp0 := place_lo (sgAt m.sigs k).st (sgAt m.sigs k).ln (sgAt m.sigs k).od j (unhide OK).st0 (by omega) hjl
                        have hp1 := unhide HWI k hlt j hjl
                        have hpn : place (sgAt m.sigs k).st (sgAt m.sigs k).ln (sgAt m.sigs k).od j = (((place (sgAt m.sigs k).st (sgAt m.sigs k).ln (sgAt m.sigs k).od j).toNat : Nat) : Int) := (Int.toNat_of_nonneg hp0).symm
                        have HPN := hide hpn
                        have HB6 := hide (box_next (unhide HB5) hb6)
                        have HR6 := hide (ownsRow_bel (unhide HR) hb6)
                        clear hb6 cnw hbw hpn hte
                        go_wp2_with fail
                        rw [unhide HPN]
                        refine (rPut_any (w1.heap.size + 1) _ _ m.sz.toNat _ (place (sgAt m.sigs k).st (sgAt m.sigs k).ln (sgAt m.sigs k).od j).toNat _ (unhide HR6) (by omega) (by omega)).mono ?_
                        rintro e w7 ⟨rfl, hrow7, hgr7⟩
                        have HB7 := hide (Below.grown (unhide HB6) hgr7 (by have := (unhide HB6).size; simp at this; omega) (fun q hq => by cases hq; exact ((unhide HR6).lt _ rfl).1))
                        have HR7 := hide hrow7
                        clear hrow7 hgr7
                        go_wp2
                        go_roundw
                        case rel =>
                          refine ⟨j + 1, by omega, by go_num, ?_, unhide HB7⟩
                          rw [unhide HLAY, ← Nat.or_assoc]
                          exact unhide HR7
                        case measure => simp [intOf]; omega
                      · have hte : (bits BinOp.and IntKind.i64 ((zAt Z k + 2 * hh) / 2 ^ j) 1 == 1) = false := by rw [hand, n2, beq_eq_false_iff_ne]; omega
                        have HLAY := hide (layTo_zero (st := (sgAt m.sigs k).st) (ln := (sgAt m.sigs k).ln) (od := (sgAt m.sigs k).od) (show bitv (zAt Z k) j = 0 by omega))
                        clear hand n0 n1 n2 hd1 hd2 hbl hbv
                        go_wp2
                        go_roundw
                        case rel =>
                          refine ⟨j + 1, by omega, by go_num, ?_, unhide HB5⟩
                          rw [unhide HLAY]
                          exact unhide HR
                        case measure => simp [intOf]; omega
                    · have hjn : (sgAt m.sigs k).ln.toNat = j := by omega
                      have HJ := hide hjn
                      clear hjn
                      go_wp2
                      go_roundw
                      case rel =>
                        refine ⟨k + 1, by omega, by go_num, ?_, unhide HB5⟩
                        have h7 := unhide HR
                        have e7 : bitsTo m.sigs Z c (k + 1) = bitsTo m.sigs Z c k ||| layTo (sgAt m.sigs k).st (sgAt m.sigs k).ln (sgAt m.sigs k).od (zAt Z k) j := by
                          rw [bitsTo, if_pos (unhide HAC), unhide HJ]; rfl
                        rw [e7]
                        exact h7
                      case measure => simp [intOf]; omega
                · have HNV := hide (show natural (sgAt m.sigs k).ln (zAt Z k) = zAt Z k by rw [natural, if_neg hv])
                  have hnb := fun (j : Nat) (hj : (j : Int) < (sgAt m.sigs k).ln) => natural_bit (sgAt m.sigs k).ln (zAt Z k) j (unhide OK).ln0 (unhide OK).ln1 hj (unhide HFB).1 (unhide HFB).2
                  rw [unhide HNV] at hnb
                  have HNB := hide hnb
                  clear hnb
                  go_wp2
                  clear cnw znw
                  go_loopw [20, 21] (fun i _ wr => ∃ j : Nat, (j : Int) ≤ (sgAt m.sigs k).ln ∧ i = .int .i64 j ∧ wr.ownsRow (w1.heap.size + 1) 5 1 (.slice (some ⟨wo.heap.size, 0, none⟩) m.sz.toNat m.sz.toNat) m.sz.toNat ((bytesL (bitsTo m.sigs Z c k ||| layTo (sgAt m.sigs k).st (sgAt m.sigs k).ln (sgAt m.sigs k).od (zAt Z k) j) m.sz.toNat).map (Value.int .u8)) ∧ Below (w1.heap.size + 1) (w1.alloc (.cells #[.string m.id, .int .i64 m.sz, .slice (some ⟨g2, 0, none⟩) m.sigs.length vcap, .int .i64 m.pl] 56)) wr) (fun i _ _ => ((sgAt m.sigs k).ln - intOf i).toNat)
                  case atStart => exact ⟨0, by have := (unhide OK).ln0; omega, rfl, by simpa [layTo] using unhide HROW4, unhide HB4⟩
                  case round =>
                    obtain ⟨j, hj, rfl, hrow, hb5⟩ := hrel
                    have cnw := cn _ hb5
                    have hbw := hbox _ hb5
                    have HR := hide hrow
                    have HB5 := hide hb5
                    clear hrow hb5
                    by_cases hjl : (j : Int) < (sgAt m.sigs k).ln
                    · obtain ⟨n0, n1, n2⟩ := unhide HNB j hjl
                      have hd1 : (0 : Int) ≤ (zAt Z k) / 2 ^ j := Int.ediv_nonneg n0 (Int.le_of_lt (Int.pow_pos (by omega)))
                      have hd2 : (zAt Z k) / 2 ^ j ≤ (zAt Z k) := Int.ediv_le_self _ n0
                      have hand := and_one_i64 ((zAt Z k) / 2 ^ j) hd1 (by have := half_le (sgAt m.sigs k).ln (unhide OK).ln1; omega)
                      have hbl := bitv_lt (zAt Z k) j
                      by_cases hbv : bitv (zAt Z k) j = 1
                      · have hte : (bits BinOp.and IntKind.i64 ((zAt Z k) / 2 ^ j) 1 == 1) = true := by rw [hand, n2, hbv]; rfl
                        have HLAY := hide (layTo_one (st := (sgAt m.sigs k).st) (ln := (sgAt m.sigs k).ln) (od := (sgAt m.sigs k).od) hbv)
                        clear hand n0 n1 n2 hd1 hd2 hbl hbv
                        go_wp2_with fail
                        refine (rBit_any _ (sgAt m.sigs k).st (sgAt m.sigs k).ln _ _ j (sgAt m.sigs k).od (sgAt m.sigs k).kd _ (unhide OK).st0 (unhide OK).st1 (unhide OK).ln0 (unhide OK).ln1 (unhide OK).od (by omega) hjl).mono ?_
                        rintro e w6 ⟨rfl, hb6⟩
                        have hp0 := place_lo (sgAt m.sigs k).st (sgAt m.sigs k).ln (sgAt m.sigs k).od j (unhide OK).st0 (by omega) hjl
                        have hp1 := unhide HWI k hlt j hjl
                        have hpn : place (sgAt m.sigs k).st (sgAt m.sigs k).ln (sgAt m.sigs k).od j = (((place (sgAt m.sigs k).st (sgAt m.sigs k).ln (sgAt m.sigs k).od j).toNat : Nat) : Int) := (Int.toNat_of_nonneg hp0).symm
                        have HPN := hide hpn
                        have HB6 := hide (box_next (unhide HB5) hb6)
                        have HR6 := hide (ownsRow_bel (unhide HR) hb6)
                        clear hb6 cnw hbw hpn hte
                        go_wp2_with fail
                        rw [unhide HPN]
                        refine (rPut_any (w1.heap.size + 1) _ _ m.sz.toNat _ (place (sgAt m.sigs k).st (sgAt m.sigs k).ln (sgAt m.sigs k).od j).toNat _ (unhide HR6) (by omega) (by omega)).mono ?_
                        rintro e w7 ⟨rfl, hrow7, hgr7⟩
                        have HB7 := hide (Below.grown (unhide HB6) hgr7 (by have := (unhide HB6).size; simp at this; omega) (fun q hq => by cases hq; exact ((unhide HR6).lt _ rfl).1))
                        have HR7 := hide hrow7
                        clear hrow7 hgr7
                        go_wp2
                        go_roundw
                        case rel =>
                          refine ⟨j + 1, by omega, by go_num, ?_, unhide HB7⟩
                          rw [unhide HLAY, ← Nat.or_assoc]
                          exact unhide HR7
                        case measure => simp [intOf]; omega
                      · have hte : (bits BinOp.and IntKind.i64 ((zAt Z k) / 2 ^ j) 1 == 1) = false := by rw [hand, n2, beq_eq_false_iff_ne]; omega
                        have HLAY := hide (layTo_zero (st := (sgAt m.sigs k).st) (ln := (sgAt m.sigs k).ln) (od := (sgAt m.sigs k).od) (show bitv (zAt Z k) j = 0 by omega))
                        clear hand n0 n1 n2 hd1 hd2 hbl hbv
                        go_wp2
                        go_roundw
                        case rel =>
                          refine ⟨j + 1, by omega, by go_num, ?_, unhide HB5⟩
                          rw [unhide HLAY]
                          exact unhide HR
                        case measure => simp [intOf]; omega
                    · have hjn : (sgAt m.sigs k).ln.toNat = j := by omega
                      have HJ := hide hjn
                      clear hjn
                      go_wp2
                      go_roundw
                      case rel =>
                        refine ⟨k + 1, by omega, by go_num, ?_, unhide HB5⟩
                        have h7 := unhide HR
                        have e7 : bitsTo m.sigs Z c (k + 1) = bitsTo m.sigs Z c k ||| layTo (sgAt m.sigs k).st (sgAt m.sigs k).ln (sgAt m.sigs k).od (zAt Z k) j := by
                          rw [bitsTo, if_pos (unhide HAC), unhide HJ]; rfl
                        rw [e7]
                        exact h7
                      case measure => simp [intOf]; omega
          · have hkn : k = m.sigs.length := by omega
            have hconv := conv_row (unhide HR)
            have HK := hide hkn
            have hpk := pk_eta' _ (unhide HP0 (unhide HFU))
            have HPK := hide hpk
            clear hkn hpk
            go_wp2
            go_ret3
            exact ⟨by rw [(unhide HPK).1, (unhide HPK).2.1, (unhide HPK).2.2, payB, ← unhide HK]; rfl, (unhide HB1).trans ((box_below (unhide HBk)).mono (unhide HB1).size)⟩
  · have HP := hide (pk_eta' _ (show pk s id Z = (noBytes, 8, 0) by rw [unhide HPK, pkMsg, if_pos hln]))
    have hl2 : ((Z.length : Int) != (m.sigs.length : Int)) = true := by rw [bne_iff_ne]; omega
    clear hln
    go_wp2
    go_ret3
    exact ⟨by rw [(unhide HP).1, (unhide HP).2.1, (unhide HP).2.2]; rfl, (unhide HB1).alloc (unhide HB1).size _⟩

end Go.Proofs.Ytljodhcfimklkab
