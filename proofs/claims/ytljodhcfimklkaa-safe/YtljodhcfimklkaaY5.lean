import Derived.Test.YtljodhcfimklkaaY4
import Derived.Test.YtljodhcfimklkaaW2
namespace Go.Proofs.Ytljodhcfimklkaa
open Go.RowKit

/-- P5, of a message. -/
def upMsg (m : Mg) (p : ByteArray) : List Int × ByteArray × Int × Int :=
  if (p.size : Int) ≠ m.sz then ([], noBytes, 10, 0)
  else (valsL m.sigs (payTo p p.size) (choiceN m.sigs (payTo p p.size)) m.sigs.length, strOfNums (signsL m.sigs (choiceN m.sigs (payTo p p.size)) m.sigs.length), 0, 0)
/-- P5. -/
def up (s id p : ByteArray) : List Int × ByteArray × Int × Int :=
  if 8 < p.size then ([], noBytes, 1, 0) else
  if chkE s ≠ 0 then ([], noBytes, chkE s, chkP s) else
  match pDb s 4 0 with
  | .inl _ => ([], noBytes, 0, 0)
  | .inr M => if msgIx M id < 0 then ([], noBytes, 7, 0) else upMsg (mAt M (msgIx M id).toNat) p

theorem up_eta {x : List Int × ByteArray × Int × Int} {l : List Int} {a : ByteArray} {b c : Int} (h : x = (l, a, b, c)) : x.1 = l ∧ x.2.1 = a ∧ x.2.2.1 = b ∧ x.2.2.2 = c := by rw [h]; exact ⟨rfl, rfl, rfl, rfl⟩
theorem up_long {s id p : ByteArray} (h : 8 < p.size) : up s id p = ([], noBytes, 1, 0) := by rw [up, if_pos h]
theorem up_bad {s id p : ByteArray} (h8 : ¬ 8 < p.size) (h : chkE s ≠ 0) : up s id p = ([], noBytes, chkE s, chkP s) := by rw [up, if_neg h8, if_pos h]
theorem up_id {s id p : ByteArray} {M : List Mg} (h8 : ¬ 8 < p.size) (h : chkE s = 0) (hp : pDb s 4 0 = .inr M) (hi : msgIx M id = -1) : up s id p = ([], noBytes, 7, 0) := by
  rw [up, if_neg h8, if_neg (by omega), hp]; simp only; rw [if_pos (by omega)]
theorem up_msg {s id p : ByteArray} {M : List Mg} {k : Nat} (h8 : ¬ 8 < p.size) (h : chkE s = 0) (hp : pDb s 4 0 = .inr M) (hi : msgIx M id = k) : up s id p = upMsg (mAt M k) p := by
  rw [up, if_neg h8, if_neg (by omega), hp]; simp only; rw [if_neg (by omega), hi, Int.toNat_natCast]

/-- What both calls answer. -/
def UpOut (s id p : ByteArray) (e : Ending) (w' : World) : Prop :=
  ∃ u, e = .returned (.tuple #[u, .string (up s id p).2.1, .int .i64 (up s id p).2.2.1, .int .i64 (up s id p).2.2.2]) ∧ IntsAt w' u (up s id p).1

theorem IntsAt_nil (w : World) : IntsAt w (.slice none 0 0) [] := ⟨none, 0, rfl, by simp, by simp, by simp⟩

theorem upOut_err {s id p : ByteArray} {b c : Int} {w : World} (h : up s id p = ([], noBytes, b, c)) : UpOut s id p (.returned (.tuple #[.slice none 0 0, .string { data := #[] }, .int .i64 b, .int .i64 c])) w := by
  rw [UpOut, h]; exact ⟨_, rfl, IntsAt_nil w⟩

theorem upOut_ok {s id p : ByteArray} {l : List Int} {a : ByteArray} {u : Value} {w : World} (h : up s id p = (l, a, 0, 0)) (hu : IntsAt w u l) : UpOut s id p (.returned (.tuple #[u, .string a, .int .i64 0, .int .i64 0])) w := by
  rw [UpOut, h]; exact ⟨_, rfl, hu⟩

set_option maxRecDepth 100000 in
set_option maxHeartbeats 2000000 in
theorem Unpack_any (s id p : ByteArray) (w : World) (hs : s.size ≤ maxLen) (hid : id.size ≤ maxLen) :
    Calls Try.prog 21 #[.string s, .string id, .string p] w fun e w' => UpOut s id p e w' ∧ Below w.heap.size w w' := by
  go_enter Try.func21, Try.ntmps21
  by_cases h8 : 8 < p.size
  · have HU := hide (up_long (s := s) (id := id) h8)
    have h8i : (8 : Int) < (p.size : Int) := by omega
    clear h8
    go_wp2
    exact bodyPost_ret (v := .tuple #[.slice none 0 0, .string { data := #[] }, .int .i64 1, .int .i64 0]) (by simp [results, Try.results21, go_sem]) rfl ⟨upOut_err (unhide HU), Below.refl _ _⟩
  have h8i : ¬ (8 : Int) < (p.size : Int) := by omega
  have H8 := hide h8
  clear h8
  go_wp2_with fail
  refine (soundMessage_any s id _ hs hid).mono ?_
  rintro e w1 ⟨hout, hb1⟩
  have HB1 := hide hb1
  clear hb1
  rcases hout with ⟨hz, rfl⟩ | ⟨hz, M, hpd, hout⟩
  · have HU := hide (up_bad (id := id) (unhide H8) hz)
    have hz2 : (chkE s != 0) = true := by simpa using hz
    clear hz
    go_wp2
    exact bodyPost_ret (v := .tuple #[.slice none 0 0, .string { data := #[] }, .int .i64 (chkE s), .int .i64 (chkP s)]) (by simp [results, Try.results21, go_sem]) rfl ⟨upOut_err (unhide HU), (unhide HB1).alloc (unhide HB1).size _⟩
  rcases hout with ⟨hix, rfl⟩ | ⟨k, sv, hk, hix, rfl, hsv, hmo⟩
  · have HU := hide (up_id (unhide H8) hz hpd hix)
    clear hz hpd hix
    go_wp2
    exact bodyPost_ret (v := .tuple #[.slice none 0 0, .string { data := #[] }, .int .i64 7, .int .i64 0]) (by simp [results, Try.results21, go_sem]) rfl ⟨upOut_err (unhide HU), (unhide HB1).alloc (unhide HB1).size _⟩
  obtain ⟨m, hm⟩ : ∃ m, m = mAt M k := ⟨_, rfl⟩
  have HPK := hide (up_msg (unhide H8) hz hpd hix)
  have HG := hide (good_of hpd hk).2
  have HAF := hide (sound_fits hz hpd hk)
  rw [← hm] at hsv hmo HPK HG HAF
  rw [← hm]
  obtain ⟨va, vcap, rfl⟩ := ownsRow_form hsv
  have HSV := hide hsv
  clear hz hpd hix hsv hmo hm hk
  have HBB : Hid (Below (w1.heap.size + 1) (w1.alloc (.cells #[.int .i64 m.pl, .int .i64 (idNum m.id), .int .i64 m.sz, .slice va m.sigs.length vcap] 74)) (w1.alloc (.cells #[.int .i64 m.pl, .int .i64 (idNum m.id), .int .i64 m.sz, .slice va m.sigs.length vcap] 74))) := hide (Below.refl _ _)
  by_cases hln : (p.size : Int) = m.sz
  · have hl2 : ((p.size : Int) != m.sz) = false := by rw [hln]; simp
    have HU := hide (show up s id p = _ by rw [unhide HPK, upMsg, if_neg (by simpa using hln)])
    clear hln
    go_wp2_with fail
    refine (payloadBits_any p _ (by have := unhide H8; omega)).mono ?_
    rintro e w2 ⟨rfl, rfl⟩
    go_wp2_with fail
    refine (unpackBits_any _ m.sigs _ _ (ownsRow_below (unhide HSV) (box_below (unhide HBB))) (unhide HG) (unhide HAF) (payTo_64 p p.size (by have := unhide H8; omega))).mono ?_
    rintro e w3 ⟨u, rfl, hu, hb3⟩
    have HB3 := hide (box_next (unhide HBB) hb3)
    have HUU := hide hu
    obtain ⟨ua, ucap, rfl, hu1, hu2, hu3⟩ := hu
    clear hb3 hu1 hu2 hu3
    go_wp2
    exact bodyPost_ret (v := .tuple #[.slice ua (valsL m.sigs (payTo p p.size) (choiceN m.sigs (payTo p p.size)) m.sigs.length).length ucap, .string (strOfNums (signsL m.sigs (choiceN m.sigs (payTo p p.size)) m.sigs.length)), .int .i64 0, .int .i64 0]) (by simp [results, Try.results21, go_sem]) rfl ⟨upOut_ok (unhide HU) (unhide HUU), (unhide HB1).trans ((box_below (unhide HB3)).mono (unhide HB1).size)⟩
  · have HU := hide (show up s id p = _ by rw [unhide HPK, upMsg, if_pos hln])
    have hl2 : ((p.size : Int) != m.sz) = true := by rw [bne_iff_ne]; exact hln
    clear hln
    go_wp2
    exact bodyPost_ret (v := .tuple #[.slice none 0 0, .string { data := #[] }, .int .i64 10, .int .i64 0]) (by simp [results, Try.results21, go_sem]) rfl ⟨upOut_err (unhide HU), (unhide HB1).alloc (unhide HB1).size _⟩

set_option maxRecDepth 100000 in
set_option maxHeartbeats 2000000 in
theorem rUnpack_any (s id p : ByteArray) (w : World) (hs : s.size ≤ maxLen) :
    Calls Try.prog 22 #[.string s, .string id, .string p] w fun e w' => UpOut s id p e w' ∧ Below w.heap.size w w' := by
  go_enter Try.func22, Try.ntmps22
  by_cases h320 : 320 < s.size
  · have hsi : (320 : Int) < (s.size : Int) := by omega
    have HU : Hid (up s id p = ([], noBytes, 1, 0)) := hide (by
      by_cases h8 : 8 < p.size
      · exact up_long h8
      · rw [up_bad h8 (by rw [(chk_long h320).1]; omega), (chk_long h320).1, (chk_long h320).2])
    clear h320
    go_wp2
    exact bodyPost_ret (v := .tuple #[.slice none 0 0, .string { data := #[] }, .int .i64 1, .int .i64 0]) (by simp [results, Try.results22, go_sem]) rfl ⟨upOut_err (unhide HU), Below.refl _ _⟩
  have hsi : ¬ (320 : Int) < (s.size : Int) := by omega
  have H320 := hide h320
  clear h320
  by_cases h8 : 8 < p.size
  · have HU := hide (up_long (s := s) (id := id) h8)
    have h8i : (8 : Int) < (p.size : Int) := by omega
    clear h8
    go_wp2
    exact bodyPost_ret (v := .tuple #[.slice none 0 0, .string { data := #[] }, .int .i64 1, .int .i64 0]) (by simp [results, Try.results22, go_sem]) rfl ⟨upOut_err (unhide HU), Below.refl _ _⟩
  have h8i : ¬ (8 : Int) < (p.size : Int) := by omega
  have H8 := hide h8
  clear h8
  go_wp2_with fail
  refine (rCheck_any s _ hs).mono ?_
  rintro e w0 ⟨rfl, hb0⟩
  have HB0 := hide hb0
  clear hb0
  by_cases hzc : chkE s ≠ 0
  · have HU := hide (up_bad (id := id) (unhide H8) hzc)
    have hz2 : (chkE s != 0) = true := by simpa using hzc
    clear hzc
    go_wp2
    exact bodyPost_ret (v := .tuple #[.slice none 0 0, .string { data := #[] }, .int .i64 (chkE s), .int .i64 (chkP s)]) (by simp [results, Try.results22, go_sem]) rfl ⟨upOut_err (unhide HU), unhide HB0⟩
  have hzc0 : chkE s = 0 := by omega
  have hz2 : (chkE s != 0) = false := by rw [hzc0]; rfl
  obtain ⟨M, hpd⟩ : ∃ M, pDb s 4 0 = .inr M := by
    cases hp : pDb s 4 0 with
    | inl p => rw [(chk_text (unhide H320) hp).1] at hzc0; omega
    | inr M => exact ⟨M, rfl⟩
  have HZC := hide hzc0
  have HPD := hide hpd
  clear hzc hzc0 hpd
  go_wp2_with fail
  refine (rFind_any s id M _ (by have := unhide H320; omega) (unhide HPD)).mono ?_
  rintro e w1 ⟨hout, hb1⟩
  have HB1 := hide ((unhide HB0).trans (hb1.mono (unhide HB0).size))
  clear hb1
  rcases hout with ⟨hix, rfl⟩ | ⟨k, sv, hk, hix, rfl, hsv⟩
  · have HU := hide (up_id (unhide H8) (unhide HZC) (unhide HPD) hix)
    clear hix
    go_wp2
    exact bodyPost_ret (v := .tuple #[.slice none 0 0, .string { data := #[] }, .int .i64 7, .int .i64 0]) (by simp [results, Try.results22, go_sem]) rfl ⟨upOut_err (unhide HU), (unhide HB1).alloc (unhide HB1).size _⟩
  obtain ⟨m, hm⟩ : ∃ m, m = mAt M k := ⟨_, rfl⟩
  have HPK := hide (up_msg (unhide H8) (unhide HZC) (unhide HPD) hix)
  have HG := hide (good_of (unhide HPD) hk).2
  have HWI := hide (sound_within (unhide HZC) (unhide HPD) hk)
  rw [← hm] at hsv HPK HG HWI
  rw [← hm]
  obtain ⟨va, vcap, rfl⟩ := ownsRow_form hsv
  have HSV := hide hsv
  clear hix hsv hm hk
  have HBB : Hid (Below (w1.heap.size + 1) (w1.alloc (.cells #[.string m.id, .int .i64 m.sz, .slice va m.sigs.length vcap, .int .i64 m.pl] 45)) (w1.alloc (.cells #[.string m.id, .int .i64 m.sz, .slice va m.sigs.length vcap, .int .i64 m.pl] 45))) := hide (Below.refl _ _)
  by_cases hln : (p.size : Int) = m.sz
  · have hl2 : ((p.size : Int) != m.sz) = false := by rw [hln]; simp
    have HU := hide (show up s id p = _ by rw [unhide HPK, upMsg, if_neg (by simpa using hln)])
    have HW2 : Hid (Within m.sigs p.size) := hide (by rw [hln]; exact unhide HWI)
    clear hln
    go_wp2_with fail
    refine (rUnpacked_any m.id p m.sz m.pl _ m.sigs _ (ownsRow_below (unhide HSV) (box_below (unhide HBB))) (unhide HG) (by have := unhide H8; omega) (unhide HW2)).mono ?_
    rintro e w3 ⟨u, rfl, hu, hb3⟩
    have HB3 := hide (box_next (unhide HBB) hb3)
    have HUU := hide hu
    obtain ⟨ua, ucap, rfl, hu1, hu2, hu3⟩ := hu
    clear hb3 hu1 hu2 hu3
    go_wp2
    exact bodyPost_ret (v := .tuple #[.slice ua (valsL m.sigs (payTo p p.size) (choiceN m.sigs (payTo p p.size)) m.sigs.length).length ucap, .string (strOfNums (signsL m.sigs (choiceN m.sigs (payTo p p.size)) m.sigs.length)), .int .i64 0, .int .i64 0]) (by simp [results, Try.results22, go_sem]) rfl ⟨upOut_ok (unhide HU) (unhide HUU), (unhide HB1).trans ((box_below (unhide HB3)).mono (unhide HB1).size)⟩
  · have HU := hide (show up s id p = _ by rw [unhide HPK, upMsg, if_pos hln])
    have hl2 : ((p.size : Int) != m.sz) = true := by rw [bne_iff_ne]; exact hln
    clear hln
    go_wp2
    exact bodyPost_ret (v := .tuple #[.slice none 0 0, .string { data := #[] }, .int .i64 10, .int .i64 0]) (by simp [results, Try.results22, go_sem]) rfl ⟨upOut_err (unhide HU), (unhide HB1).alloc (unhide HB1).size _⟩

end Go.Proofs.Ytljodhcfimklkaa
