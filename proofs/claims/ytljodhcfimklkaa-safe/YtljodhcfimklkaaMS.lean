import Derived.Test.YtljodhcfimklkaaMR
import Derived.Test.YtljodhcfimklkaaSM
import Derived.Test.YtljodhcfimklkaaW1
namespace Go.Proofs.Ytljodhcfimklkaa
open Go.RowKit

theorem runL_err : ∀ (n : Nat) (L : List Ins) (S : St), L.length ≤ n → (runL L S).2.1 = 0 ∨ (runL L S).2.1 = 9 := by
  intro n
  induction n with
  | zero => intro L S h; cases L with
    | nil => exact .inl rfl
    | cons x l => simp at h
  | succ n ih =>
    intro L S h
    cases L with
    | nil => exact .inl rfl
    | cons x l =>
      rw [runL_cons]
      cases act x S with
      | none => exact .inr rfl
      | some y =>
        obtain ⟨s', d⟩ := y
        exact ih _ _ (by simp at h ⊢; omega)

theorem payB_size (N n : Nat) : (payB N n).size = n := by rw [payB, strOfNums_size, bytesL_len]
theorem fill_safe {s : ByteArray} {Z : List Int} {sz : Int} (h : vE s = 0) (h0 : 0 ≤ sz) (h8 : sz ≤ 8) (hz : Z.length ≤ 8) : ∃ a b c, fillOut s Z sz = (a, b, c) ∧ (b = 0 ∧ (a.size : Int) = sz ∨ b = 9) := by
  rw [fillOut, if_neg (by omega), if_neg (by omega), if_neg (by omega)]
  split
  · rename_i hre
    refine ⟨_, _, _, rfl, .inr ?_⟩
    rcases runL_err _ (codeL s) (st0 Z) (Nat.le_refl _) with h1 | h1
    · exact absurd h1 hre
    · exact h1
  · exact ⟨_, _, _, rfl, .inl ⟨rfl, by rw [payB_size]; omega⟩⟩
theorem read_safe {s p : ByteArray} (h : vE s = 0) (hp : p.size ≤ 8) : ∃ z a b c, readOut s p = (z, a, b, c) ∧ (b = 0 ∧ z.length = 8 ∧ a.size = 8 ∨ b = 9) := by
  rw [readOut, if_neg (by omega), if_neg (by omega)]
  split
  · rename_i hre
    refine ⟨_, _, _, _, rfl, .inr ?_⟩
    rcases runL_err _ (codeL s) (stN (payTo p p.size)) (Nat.le_refl _) with h1 | h1
    · exact absurd h1 hre
    · exact h1
  · exact ⟨_, _, _, _, rfl, .inl ⟨rfl, by simp [regsM], by rw [strOfNums_size, signsM_len]⟩⟩
theorem ints_take {w : World} {a : Option Addr} {n cap : Nat} {Z : List Int} (h : IntsAt w (.slice a n cap) Z) (h8 : 8 < Z.length) : IntsAt w (.slice a 8 cap) (Z.take 8) := by
  obtain ⟨a', cap', hv, h1, h2, h3⟩ := h
  cases hv
  have hl : (Z.take 8).length = 8 := by rw [List.length_take]; omega
  refine ⟨_, _, by rw [hl], by rw [hl]; omega, fun e => by have := h2 e; omega, fun x hx => ?_⟩
  obtain ⟨h4, h5⟩ := h3 x hx
  refine ⟨fun _ => h4 (by omega), fun i hi => ?_⟩
  rw [h5 i (by omega)]
  rw [hl] at hi
  simp [zAt, hi]

set_option maxRecDepth 100000 in
set_option maxHeartbeats 4000000 in
theorem Safe_any (s : ByteArray) (v : Value) (Z : List Int) (p : ByteArray) (w : World) (hz : IntsAt w v Z) (hr : Z.length * 8 ≤ 140737488351232) :
    Calls Try.prog 11 #[.string s, v, .string p] w fun e w' => e = .returned (.bool true) ∧ Below w.heap.size w w' := by
  have HZ := hide hz
  obtain ⟨za, zcap, rfl, hz1, hz2, hz3⟩ := hz
  clear hz2 hz3
  go_enter Try.func11, Try.ntmps11
  go_wp2_with fail
  refine (Verify_any s _).mono ?_
  rintro e w0 ⟨rfl, hb0⟩
  have HB0 := hide hb0
  clear hb0
  go_wp2_with fail
  refine (copied_any _ Z _ ((unhide HZ).below (unhide HB0)) hr).mono ?_
  rintro e w1 ⟨u, rfl, hu, hb1⟩
  have HB1 := hide ((unhide HB0).trans (hb1.mono (unhide HB0).size))
  have HU0 := hide hu
  obtain ⟨ua, ucap, rfl, hu1, hu2, hu3⟩ := hu
  clear hu2 hu3 hb1
  have hlm : (Z.length : Int) ≤ (ucap : Int) := by omega
  by_cases hz8 : 8 < Z.length
  rotate_left
  · have HU := HU0
    have HYL := hide hr
    have hz8' : (Z.length : Int) ≤ 8 := by omega
    clear HU0 HZ
    by_cases hp8 : 8 < p.size
    · have hp8' : (8 : Int) < (p.size : Int) := by omega
      have HQS := hide (show (p.extract 0 8).size = 8 by rw [ByteArray.size_extract]; omega)
      go_wp2_with fail
      refine (Fill_any s _ Z ((min 8 p.size : Nat) : Int) _ (unhide HU) (unhide HYL)).mono ?_
      rintro e w2 ⟨rfl, hb2⟩
      have HB2 := hide ((unhide HB1).trans (hb2.mono (unhide HB1).size))
      clear hb2
      go_wp2_with fail
      refine (Read_any s (p.extract 0 8) _).mono ?_
      rintro e w3 ⟨⟨x, rfl, hx⟩, hb3⟩
      have HB3 := hide ((unhide HB2).trans (hb3.mono (unhide HB2).size))
      obtain ⟨xa, xcap, rfl, hx1, hx2, hx3⟩ := hx
      clear hx1 hx2 hx3 hb3
      by_cases hve : vE s ≠ 0
      · have hF := pk_eta _ (show fillOut s Z ((min 8 p.size : Nat) : Int) = (noBytes, vE s, vP s) by rw [fillOut, if_pos hve])
        have hR := rd_eta _ (show readOut s (p.extract 0 8) = ([], noBytes, vE s, vP s) by rw [readOut, if_neg (by rw [unhide HQS]; omega), if_pos hve])
        rw [hF.1, hF.2.1, hF.2.2, hR.1, hR.2.1, hR.2.2.1, hR.2.2.2, noBytes]
        have hve2 : (vE s != 0) = true := by simpa using hve
        have hee : (vE s == vE s) = true := by simp
        have hpp : (vP s == vP s) = true := by simp
        clear hF hR hve HU
        generalize vE s = ve at *
        generalize vP s = vp at *
        go_wp2_with (go_at_call 17; refine (num_any _ _).mono ?_; rintro e w' ⟨rfl, rfl⟩)
        go_ret
        exact ⟨rfl, unhide HB3⟩
      · have hve0 : vE s = 0 := by omega
        obtain ⟨fa, fb, fc, hF0, hFs⟩ := fill_safe (Z := Z) (sz := ((min 8 p.size : Nat) : Int)) hve0 (by omega) (by omega) (by omega)
        obtain ⟨rz, ra, rb, rc, hR0, hRs⟩ := read_safe (p := (p.extract 0 8)) hve0 (by rw [unhide HQS]; omega)
        have hF := pk_eta _ hF0
        have hR := rd_eta _ hR0
        rw [hF.1, hF.2.1, hF.2.2, hR.1, hR.2.1, hR.2.2.1, hR.2.2.2]
        have hve2 : (vE s != 0) = false := by rw [hve0]; rfl
        clear hF hR hF0 hR0 HU
        rcases hFs with ⟨rfl, hFs⟩ | rfl
        · have hfn : ((fa.size : Int) != ((min 8 p.size : Nat) : Int)) = false := by rw [hFs]; simp
          clear hFs
          rcases hRs with ⟨rfl, hRz, hRa⟩ | rfl
          · have hrn : ((rz.length : Int) != 8) = false := by rw [hRz]; rfl
            have hrm : ((ra.size : Int) != 8) = false := by rw [hRa]; rfl
            clear hRz hRa
            go_wp2_with (go_at_call 17; refine (num_any _ _).mono ?_; rintro e w' ⟨rfl, rfl⟩)
            go_ret
            exact ⟨rfl, unhide HB3⟩
          · go_wp2_with (go_at_call 17; refine (num_any _ _).mono ?_; rintro e w' ⟨rfl, rfl⟩)
            go_ret
            exact ⟨rfl, unhide HB3⟩
        · rcases hRs with ⟨rfl, hRz, hRa⟩ | rfl
          · have hrn : ((rz.length : Int) != 8) = false := by rw [hRz]; rfl
            have hrm : ((ra.size : Int) != 8) = false := by rw [hRa]; rfl
            clear hRz hRa
            go_wp2_with (go_at_call 17; refine (num_any _ _).mono ?_; rintro e w' ⟨rfl, rfl⟩)
            go_ret
            exact ⟨rfl, unhide HB3⟩
          · go_wp2_with (go_at_call 17; refine (num_any _ _).mono ?_; rintro e w' ⟨rfl, rfl⟩)
            go_ret
            exact ⟨rfl, unhide HB3⟩
    · have hp8' : (p.size : Int) ≤ 8 := by omega
      go_wp2_with fail
      refine (Fill_any s _ Z (p.size : Int) _ (unhide HU) (unhide HYL)).mono ?_
      rintro e w2 ⟨rfl, hb2⟩
      have HB2 := hide ((unhide HB1).trans (hb2.mono (unhide HB1).size))
      clear hb2
      go_wp2_with fail
      refine (Read_any s p _).mono ?_
      rintro e w3 ⟨⟨x, rfl, hx⟩, hb3⟩
      have HB3 := hide ((unhide HB2).trans (hb3.mono (unhide HB2).size))
      obtain ⟨xa, xcap, rfl, hx1, hx2, hx3⟩ := hx
      clear hx1 hx2 hx3 hb3
      by_cases hve : vE s ≠ 0
      · have hF := pk_eta _ (show fillOut s Z (p.size : Int) = (noBytes, vE s, vP s) by rw [fillOut, if_pos hve])
        have hR := rd_eta _ (show readOut s p = ([], noBytes, vE s, vP s) by rw [readOut, if_neg (by omega), if_pos hve])
        rw [hF.1, hF.2.1, hF.2.2, hR.1, hR.2.1, hR.2.2.1, hR.2.2.2, noBytes]
        have hve2 : (vE s != 0) = true := by simpa using hve
        have hee : (vE s == vE s) = true := by simp
        have hpp : (vP s == vP s) = true := by simp
        clear hF hR hve HU
        generalize vE s = ve at *
        generalize vP s = vp at *
        go_wp2_with (go_at_call 17; refine (num_any _ _).mono ?_; rintro e w' ⟨rfl, rfl⟩)
        go_ret
        exact ⟨rfl, unhide HB3⟩
      · have hve0 : vE s = 0 := by omega
        obtain ⟨fa, fb, fc, hF0, hFs⟩ := fill_safe (Z := Z) (sz := (p.size : Int)) hve0 (by omega) (by omega) (by omega)
        obtain ⟨rz, ra, rb, rc, hR0, hRs⟩ := read_safe (p := p) hve0 (by omega)
        have hF := pk_eta _ hF0
        have hR := rd_eta _ hR0
        rw [hF.1, hF.2.1, hF.2.2, hR.1, hR.2.1, hR.2.2.1, hR.2.2.2]
        have hve2 : (vE s != 0) = false := by rw [hve0]; rfl
        clear hF hR hF0 hR0 HU
        rcases hFs with ⟨rfl, hFs⟩ | rfl
        · have hfn : ((fa.size : Int) != (p.size : Int)) = false := by rw [hFs]; simp
          clear hFs
          rcases hRs with ⟨rfl, hRz, hRa⟩ | rfl
          · have hrn : ((rz.length : Int) != 8) = false := by rw [hRz]; rfl
            have hrm : ((ra.size : Int) != 8) = false := by rw [hRa]; rfl
            clear hRz hRa
            go_wp2_with (go_at_call 17; refine (num_any _ _).mono ?_; rintro e w' ⟨rfl, rfl⟩)
            go_ret
            exact ⟨rfl, unhide HB3⟩
          · go_wp2_with (go_at_call 17; refine (num_any _ _).mono ?_; rintro e w' ⟨rfl, rfl⟩)
            go_ret
            exact ⟨rfl, unhide HB3⟩
        · rcases hRs with ⟨rfl, hRz, hRa⟩ | rfl
          · have hrn : ((rz.length : Int) != 8) = false := by rw [hRz]; rfl
            have hrm : ((ra.size : Int) != 8) = false := by rw [hRa]; rfl
            clear hRz hRa
            go_wp2_with (go_at_call 17; refine (num_any _ _).mono ?_; rintro e w' ⟨rfl, rfl⟩)
            go_ret
            exact ⟨rfl, unhide HB3⟩
          · go_wp2_with (go_at_call 17; refine (num_any _ _).mono ?_; rintro e w' ⟨rfl, rfl⟩)
            go_ret
            exact ⟨rfl, unhide HB3⟩
  · have HU := hide (ints_take (unhide HU0) hz8)
    have HYL := hide (show (Z.take 8).length * 8 ≤ 140737488351232 by rw [List.length_take]; omega)
    have hz8' : (8 : Int) < (Z.length : Int) := by omega
    have hz9 : (8 : Int) ≤ (ucap : Int) := by omega
    clear HU0 HZ
    by_cases hp8 : 8 < p.size
    · have hp8' : (8 : Int) < (p.size : Int) := by omega
      have HQS := hide (show (p.extract 0 8).size = 8 by rw [ByteArray.size_extract]; omega)
      go_wp2_with fail
      refine (Fill_any s _ (Z.take 8) ((min 8 p.size : Nat) : Int) _ (unhide HU) (unhide HYL)).mono ?_
      rintro e w2 ⟨rfl, hb2⟩
      have HB2 := hide ((unhide HB1).trans (hb2.mono (unhide HB1).size))
      clear hb2
      go_wp2_with fail
      refine (Read_any s (p.extract 0 8) _).mono ?_
      rintro e w3 ⟨⟨x, rfl, hx⟩, hb3⟩
      have HB3 := hide ((unhide HB2).trans (hb3.mono (unhide HB2).size))
      obtain ⟨xa, xcap, rfl, hx1, hx2, hx3⟩ := hx
      clear hx1 hx2 hx3 hb3
      by_cases hve : vE s ≠ 0
      · have hF := pk_eta _ (show fillOut s (Z.take 8) ((min 8 p.size : Nat) : Int) = (noBytes, vE s, vP s) by rw [fillOut, if_pos hve])
        have hR := rd_eta _ (show readOut s (p.extract 0 8) = ([], noBytes, vE s, vP s) by rw [readOut, if_neg (by rw [unhide HQS]; omega), if_pos hve])
        rw [hF.1, hF.2.1, hF.2.2, hR.1, hR.2.1, hR.2.2.1, hR.2.2.2, noBytes]
        have hve2 : (vE s != 0) = true := by simpa using hve
        have hee : (vE s == vE s) = true := by simp
        have hpp : (vP s == vP s) = true := by simp
        clear hF hR hve HU
        generalize vE s = ve at *
        generalize vP s = vp at *
        go_wp2_with (go_at_call 17; refine (num_any _ _).mono ?_; rintro e w' ⟨rfl, rfl⟩)
        go_ret
        exact ⟨rfl, unhide HB3⟩
      · have hve0 : vE s = 0 := by omega
        obtain ⟨fa, fb, fc, hF0, hFs⟩ := fill_safe (Z := (Z.take 8)) (sz := ((min 8 p.size : Nat) : Int)) hve0 (by omega) (by omega) (by rw [List.length_take]; omega)
        obtain ⟨rz, ra, rb, rc, hR0, hRs⟩ := read_safe (p := (p.extract 0 8)) hve0 (by rw [unhide HQS]; omega)
        have hF := pk_eta _ hF0
        have hR := rd_eta _ hR0
        rw [hF.1, hF.2.1, hF.2.2, hR.1, hR.2.1, hR.2.2.1, hR.2.2.2]
        have hve2 : (vE s != 0) = false := by rw [hve0]; rfl
        clear hF hR hF0 hR0 HU
        rcases hFs with ⟨rfl, hFs⟩ | rfl
        · have hfn : ((fa.size : Int) != ((min 8 p.size : Nat) : Int)) = false := by rw [hFs]; simp
          clear hFs
          rcases hRs with ⟨rfl, hRz, hRa⟩ | rfl
          · have hrn : ((rz.length : Int) != 8) = false := by rw [hRz]; rfl
            have hrm : ((ra.size : Int) != 8) = false := by rw [hRa]; rfl
            clear hRz hRa
            go_wp2_with (go_at_call 17; refine (num_any _ _).mono ?_; rintro e w' ⟨rfl, rfl⟩)
            go_ret
            exact ⟨rfl, unhide HB3⟩
          · go_wp2_with (go_at_call 17; refine (num_any _ _).mono ?_; rintro e w' ⟨rfl, rfl⟩)
            go_ret
            exact ⟨rfl, unhide HB3⟩
        · rcases hRs with ⟨rfl, hRz, hRa⟩ | rfl
          · have hrn : ((rz.length : Int) != 8) = false := by rw [hRz]; rfl
            have hrm : ((ra.size : Int) != 8) = false := by rw [hRa]; rfl
            clear hRz hRa
            go_wp2_with (go_at_call 17; refine (num_any _ _).mono ?_; rintro e w' ⟨rfl, rfl⟩)
            go_ret
            exact ⟨rfl, unhide HB3⟩
          · go_wp2_with (go_at_call 17; refine (num_any _ _).mono ?_; rintro e w' ⟨rfl, rfl⟩)
            go_ret
            exact ⟨rfl, unhide HB3⟩
    · have hp8' : (p.size : Int) ≤ 8 := by omega
      go_wp2_with fail
      refine (Fill_any s _ (Z.take 8) (p.size : Int) _ (unhide HU) (unhide HYL)).mono ?_
      rintro e w2 ⟨rfl, hb2⟩
      have HB2 := hide ((unhide HB1).trans (hb2.mono (unhide HB1).size))
      clear hb2
      go_wp2_with fail
      refine (Read_any s p _).mono ?_
      rintro e w3 ⟨⟨x, rfl, hx⟩, hb3⟩
      have HB3 := hide ((unhide HB2).trans (hb3.mono (unhide HB2).size))
      obtain ⟨xa, xcap, rfl, hx1, hx2, hx3⟩ := hx
      clear hx1 hx2 hx3 hb3
      by_cases hve : vE s ≠ 0
      · have hF := pk_eta _ (show fillOut s (Z.take 8) (p.size : Int) = (noBytes, vE s, vP s) by rw [fillOut, if_pos hve])
        have hR := rd_eta _ (show readOut s p = ([], noBytes, vE s, vP s) by rw [readOut, if_neg (by omega), if_pos hve])
        rw [hF.1, hF.2.1, hF.2.2, hR.1, hR.2.1, hR.2.2.1, hR.2.2.2, noBytes]
        have hve2 : (vE s != 0) = true := by simpa using hve
        have hee : (vE s == vE s) = true := by simp
        have hpp : (vP s == vP s) = true := by simp
        clear hF hR hve HU
        generalize vE s = ve at *
        generalize vP s = vp at *
        go_wp2_with (go_at_call 17; refine (num_any _ _).mono ?_; rintro e w' ⟨rfl, rfl⟩)
        go_ret
        exact ⟨rfl, unhide HB3⟩
      · have hve0 : vE s = 0 := by omega
        obtain ⟨fa, fb, fc, hF0, hFs⟩ := fill_safe (Z := (Z.take 8)) (sz := (p.size : Int)) hve0 (by omega) (by omega) (by rw [List.length_take]; omega)
        obtain ⟨rz, ra, rb, rc, hR0, hRs⟩ := read_safe (p := p) hve0 (by omega)
        have hF := pk_eta _ hF0
        have hR := rd_eta _ hR0
        rw [hF.1, hF.2.1, hF.2.2, hR.1, hR.2.1, hR.2.2.1, hR.2.2.2]
        have hve2 : (vE s != 0) = false := by rw [hve0]; rfl
        clear hF hR hF0 hR0 HU
        rcases hFs with ⟨rfl, hFs⟩ | rfl
        · have hfn : ((fa.size : Int) != (p.size : Int)) = false := by rw [hFs]; simp
          clear hFs
          rcases hRs with ⟨rfl, hRz, hRa⟩ | rfl
          · have hrn : ((rz.length : Int) != 8) = false := by rw [hRz]; rfl
            have hrm : ((ra.size : Int) != 8) = false := by rw [hRa]; rfl
            clear hRz hRa
            go_wp2_with (go_at_call 17; refine (num_any _ _).mono ?_; rintro e w' ⟨rfl, rfl⟩)
            go_ret
            exact ⟨rfl, unhide HB3⟩
          · go_wp2_with (go_at_call 17; refine (num_any _ _).mono ?_; rintro e w' ⟨rfl, rfl⟩)
            go_ret
            exact ⟨rfl, unhide HB3⟩
        · rcases hRs with ⟨rfl, hRz, hRa⟩ | rfl
          · have hrn : ((rz.length : Int) != 8) = false := by rw [hRz]; rfl
            have hrm : ((ra.size : Int) != 8) = false := by rw [hRa]; rfl
            clear hRz hRa
            go_wp2_with (go_at_call 17; refine (num_any _ _).mono ?_; rintro e w' ⟨rfl, rfl⟩)
            go_ret
            exact ⟨rfl, unhide HB3⟩
          · go_wp2_with (go_at_call 17; refine (num_any _ _).mono ?_; rintro e w' ⟨rfl, rfl⟩)
            go_ret
            exact ⟨rfl, unhide HB3⟩

end Go.Proofs.Ytljodhcfimklkaa
