import Derived.Test.YtljodhcfimklkaaMF
import Derived.Test.YtljodhcfimklkaaY5
namespace Go.Proofs.Ytljodhcfimklkaa
open Go.RowKit

/-- What is run: no value, no mark, the payload's bits. -/
def stN (N : Nat) : St := ⟨fun _ => 0, fun _ => false, N⟩
/-- P10, as the program answers it. -/
def readOut (s p : ByteArray) : List Int × ByteArray × Int × Int :=
  if 8 < p.size then ([], noBytes, 1, 0) else if vE s ≠ 0 then ([], noBytes, vE s, vP s)
  else if (runL (codeL s) (stN (payTo p p.size))).2.1 ≠ 0 then ([], noBytes, (runL (codeL s) (stN (payTo p p.size))).2.1, (runL (codeL s) (stN (payTo p p.size))).2.2)
  else (regsM (runL (codeL s) (stN (payTo p p.size))).1 8, strOfNums (signsM (runL (codeL s) (stN (payTo p p.size))).1 8), 0, 0)
def ReadOut (s p : ByteArray) (e : Ending) (w' : World) : Prop := ∃ u, e = .returned (.tuple #[u, .string (readOut s p).2.1, .int .i64 (readOut s p).2.2.1, .int .i64 (readOut s p).2.2.2]) ∧ IntsAt w' u (readOut s p).1

theorem rd_eta (x : List Int × ByteArray × Int × Int) {z : List Int} {a : ByteArray} {b c : Int} (h : x = (z, a, b, c)) : x.1 = z ∧ x.2.1 = a ∧ x.2.2.1 = b ∧ x.2.2.2 = c := by rw [h]; exact ⟨rfl, rfl, rfl, rfl⟩
theorem nil_ints (w : World) : IntsAt w (.slice none 0 0) [] := ⟨none, 0, rfl, by simp, by simp, by simp⟩
theorem mach_newN (w : World) (N : Nat) : MachAt (w.alloc (.cells #[.int .i64 0, .int .i64 0, .int .i64 0, .int .i64 0, .int .i64 0, .int .i64 0, .int .i64 0, .int .i64 0, .bool false, .bool false, .bool false, .bool false, .bool false, .bool false, .bool false, .bool false, .int .u64 N] 101)) w.heap.size (stN N) :=
  ⟨rfl, .inr ⟨_, 1, _, rfl, Nat.le_refl _, blk_new _ _, Nat.le_refl _, by simp [maxLen], rfl, rfl⟩⟩

set_option maxRecDepth 100000 in
set_option maxHeartbeats 2000000 in
theorem Read_any (s p : ByteArray) (w : World) :
    Calls Try.prog 32 #[.string s, .string p] w fun e w' => ReadOut s p e w' ∧ Below w.heap.size w w' := by
  obtain ⟨j0, jinf, jz0, jz1, jz2⟩ := info_parts Try.infoInt
  have JINF := hide jinf
  have JZ0 := hide jz0
  have JZ1 := hide jz1
  have JZ2 := hide jz2
  clear jinf jz0 jz1 jz2
  by_cases hp8 : 8 < p.size
  · have HO := hide (rd_eta _ (show readOut s p = ([], noBytes, 1, 0) by rw [readOut, if_pos hp8]))
    have hp8' : (8 : Int) < (p.size : Int) := by omega
    go_enter Try.func32, Try.ntmps32
    go_wp2
    exact bodyPost_ret (v := .tuple #[.slice none 0 0, .string noBytes, .int .i64 1, .int .i64 0]) (by simp [results, Try.results32, go_sem, noBytes]) rfl ⟨⟨_, by rw [(unhide HO).2.1, (unhide HO).2.2.1, (unhide HO).2.2.2], by rw [(unhide HO).1]; exact nil_ints _⟩, Below.refl _ _⟩
  have hp8' : (p.size : Int) ≤ 8 := by omega
  go_enter Try.func32, Try.ntmps32
  go_wp2_with fail
  refine (soundCode_any s _).mono ?_
  rintro e w1 ⟨⟨pa, pn, pcap, rfl, hin⟩, hb1⟩
  have HB1 := hide hb1
  clear hb1
  by_cases hve : vE s ≠ 0
  · have HO := hide (rd_eta _ (show readOut s p = ([], noBytes, vE s, vP s) by rw [readOut, if_neg hp8, if_pos hve]))
    have hve2 : (vE s != 0) = true := by simpa using hve
    clear hve
    go_wp2
    exact bodyPost_ret (v := .tuple #[.slice none 0 0, .string noBytes, .int .i64 (vE s), .int .i64 (vP s)]) (by simp [results, Try.results32, go_sem, noBytes]) rfl ⟨⟨_, by rw [(unhide HO).2.1, (unhide HO).2.2.1, (unhide HO).2.2.2], by rw [(unhide HO).1]; exact nil_ints _⟩, unhide HB1⟩
  have hve : vE s = 0 := by omega
  have HIN := hide (hin hve)
  have HVE := hide hve
  have hve2 : (vE s != 0) = false := by rw [hve]; rfl
  clear hin hve
  obtain ⟨N, HN⟩ : ∃ N, Hid (N = payTo p p.size) := ⟨_, hide rfl⟩
  have HNL := hide (show N < 18446744073709551616 by rw [unhide HN]; exact payTo_64 p _ (by omega))
  obtain ⟨R, HR⟩ : ∃ R, Hid (R = runL (codeL s) (stN N)) := ⟨_, hide rfl⟩
  have HO := hide (show readOut s p = if R.2.1 ≠ 0 then ([], noBytes, R.2.1, R.2.2) else (regsM R.1 8, strOfNums (signsM R.1 8), 0, 0) by rw [readOut, if_neg hp8, if_neg (by rw [unhide HVE]; simp), unhide HR, unhide HN])
  have hm0 := mach_new w1 []
  have hfr := hm0.free 16
  have hn0 := hm0.bits
  have HM0 := hide hm0
  clear hm0
  go_wp2_with fail
  refine (payloadBits_any p _ (by omega)).mono ?_
  rintro e w2 ⟨rfl, rfl⟩
  rw [← unhide HN]
  have HM1 := hide (mach_newN w1 N)
  have HB2 := hide (show Below w1.heap.size w1 (w1.alloc (.cells #[.int .i64 0, .int .i64 0, .int .i64 0, .int .i64 0, .int .i64 0, .int .i64 0, .int .i64 0, .int .i64 0, .bool false, .bool false, .bool false, .bool false, .bool false, .bool false, .bool false, .bool false, .int .u64 N] 101)) from (Below.refl _ _).alloc (Nat.le_refl _) _)
  go_wp2_with fail
  refine (run_any w1.heap.size _ (codeL s) (stN N) w1 _ (unhide HIN) (Nat.le_refl _) (unhide HB2) (unhide HM1) (unhide HNL) (code_fine (unhide HVE)).1 (code_fine (unhide HVE)).2).mono ?_
  rintro e w3 ⟨rfl, hm3, _, hb3⟩
  rw [← unhide HR] at hm3 ⊢
  have HM3 := hide hm3
  have HB3 := hide ((unhide HB1).trans (((unhide HB2).trans hb3).mono (unhide HB1).size))
  clear hm3 hb3 hfr hn0
  by_cases hre : R.2.1 ≠ 0
  · have HP := hide (rd_eta _ (show readOut s p = ([], noBytes, R.2.1, R.2.2) by rw [unhide HO, if_pos hre]))
    have hre2 : (R.2.1 != 0) = true := by simpa using hre
    clear hre
    go_wp2
    exact bodyPost_ret (v := .tuple #[.slice none 0 0, .string noBytes, .int .i64 R.2.1, .int .i64 R.2.2]) (by simp [results, Try.results32, go_sem, noBytes]) rfl ⟨⟨_, by rw [(unhide HP).2.1, (unhide HP).2.2.1, (unhide HP).2.2.2], by rw [(unhide HP).1]; exact nil_ints _⟩, unhide HB3⟩
  have HP := hide (rd_eta _ (show readOut s p = (regsM R.1 8, strOfNums (signsM R.1 8), 0, 0) by rw [unhide HO, if_neg hre]))
  have hre2 : (R.2.1 != 0) = false := by simpa using hre
  clear hre
  go_wp2
  go_loopw [12, 13] (fun v i wr => ∃ k : Nat, k ≤ 8 ∧ i = .int .i64 k ∧ wr.ownsRow w3.heap.size 3 1 v k ((regsM R.1 k).map (Value.int .i64)) ∧ Below w3.heap.size w3 wr) (fun _ i _ => 8 - (intOf i).toNat)
  case atStart => exact ⟨0, by omega, rfl, ⟨by simp [regsM], .inr ⟨_, 0, #[], rfl, Nat.le_refl _, blk_new _ _, by simp, by simp [maxLen], by simp, by simp [regsM]⟩⟩, (Below.refl _ _).alloc (Nat.le_refl _) _⟩
  case round =>
    obtain ⟨k, hk, rfl, hown, hb⟩ := hrel
    obtain ⟨sa, cap, rfl⟩ := ownsRow_form hown
    have HOWN := hide hown
    have HB := hide hb
    clear hown hb
    by_cases hlt : k < 8
    · have hmk := ((unhide HM3).bel (unhide HB)).reg hlt
      have hi0 : (0 : Int) ≤ (k : Int) := by omega
      have hi1 : (k : Int) < 8 := by omega
      go_wp2_with (at_builtin; refine wpList_append_own _ rfl _ _ 29 rfl w3.heap.size 3 j0 _ 1 8 Try.underlying29 (unhide JINF) (unhide JZ0) (unhide JZ1) (unhide JZ2) rfl (by decide) _ _ _ rfl ((unhide HOWN).alloc _) ⟨wr.heap.size, 0, none⟩ 1 1 [.int .i64 (R.1.reg k)] rfl rfl ?c1 ?c2 ?c3 ?c4 ?c5 ?_)
      case c1 => exact new_cells (blk_new _ _)
      case c2 => simp [Value.oneCell']
      case c3 => unfold maxLen; omega
      case c4 => omega
      case c5 => have := (unhide HB).size; simp; omega
      intro v3 w4 hown3 hgrow _
      obtain ⟨a3, cap3, rfl⟩ := ownsRow_form hown3
      have HB4 := hide (Below.grown ((unhide HB).alloc (unhide HB).size _) hgrow (by have := (unhide HB).size; simp; omega) (fun k hk => ((unhide HOWN).lt k hk).1))
      have HOWN3 := hide hown3
      clear hown3 hgrow hmk
      go_wp2
      go_roundw
      case rel =>
        refine ⟨k + 1, by omega, by go_num, ?_, unhide HB4⟩
        have := unhide HOWN3
        rw [regsM_succ, List.map_append]
        exact this
      case measure => simp [intOf]; omega
    · have hkn : k = 8 := by omega
      subst hkn
      go_wp2_with fail
      refine (signs_any w1.heap.size R.1 _ ((unhide HM3).bel (unhide HB))).mono ?_
      rintro e w5 ⟨rfl, hb5⟩
      have HB5 := hide ((unhide HB3).trans (((unhide HB).trans (hb5.mono (unhide HB).size)).mono (unhide HB3).size))
      have HI := hide (IntsAt_row (Z := regsM R.1 8) (by rw [regsM_len]; exact ownsRow_bel (unhide HOWN) hb5))
      clear hb5
      go_wp2
      exact bodyPost_ret (v := .tuple #[.slice sa 8 cap, .string (strOfNums (signsM R.1 8)), .int .i64 0, .int .i64 0]) (by simp [results, Try.results32, go_sem]) rfl ⟨⟨_, by rw [(unhide HP).2.1, (unhide HP).2.2.1, (unhide HP).2.2.2], by rw [(unhide HP).1]; exact unhide HI⟩, unhide HB5⟩

end Go.Proofs.Ytljodhcfimklkaa
