import Derived.Test.YtljodhcfimklkabM9
import Derived.Test.YtljodhcfimklkabU5
namespace Go.Proofs.Ytljodhcfimklkab
open Go.RowKit

/-- What is run: the values in the registers, no mark, no bit. -/
def st0 (Z : List Int) : St := ⟨zAt Z, fun _ => false, 0⟩
/-- P9, as the program answers it. -/
def fillOut (s : ByteArray) (Z : List Int) (sz : Int) : ByteArray × Int × Int :=
  if vE s ≠ 0 then (noBytes, vE s, vP s) else if sz < 0 ∨ 8 < sz then (noBytes, 10, 0) else if 8 < Z.length then (noBytes, 8, 0)
  else if (runL (codeL s) (st0 Z)).2.1 ≠ 0 then (noBytes, (runL (codeL s) (st0 Z)).2.1, (runL (codeL s) (st0 Z)).2.2) else (payB (runL (codeL s) (st0 Z)).1.N sz.toNat, 0, 0)

/-- The first k values are in. -/
def stTo (Z : List Int) (k : Nat) : St := ⟨fun j => if j < k then zAt Z j else 0, fun _ => false, 0⟩
theorem stTo_succ (Z : List Int) (k : Nat) : { stTo Z k with reg := upd (stTo Z k).reg k (zAt Z k) } = stTo Z (k + 1) := by
  simp only [stTo, St.mk.injEq, and_true]
  funext j
  simp only [upd]
  by_cases e : j = k
  · subst e; simp
  · rw [if_neg e]
    by_cases h : j < k
    · rw [if_pos h, if_pos (by omega)]
    · rw [if_neg h, if_neg (by omega)]
theorem stTo_all (Z : List Int) : stTo Z Z.length = st0 Z := by
  simp only [stTo, st0, St.mk.injEq, and_true]
  funext j
  by_cases h : j < Z.length
  · rw [if_pos h]
  · rw [if_neg h, zAt, List.getD_eq_getElem?_getD, List.getElem?_eq_none (by omega)]; rfl

theorem mach_new (w : World) (Z : List Int) : MachAt (w.alloc (.cells #[.int .i64 0, .int .i64 0, .int .i64 0, .int .i64 0, .int .i64 0, .int .i64 0, .int .i64 0, .int .i64 0, .bool false, .bool false, .bool false, .bool false, .bool false, .bool false, .bool false, .bool false, .int .u64 0] 49)) w.heap.size (stTo Z 0) :=
  ⟨rfl, .inr ⟨_, 1, _, rfl, Nat.le_refl _, blk_new _ _, Nat.le_refl _, by simp [maxLen], rfl, rfl⟩⟩

set_option maxRecDepth 100000 in
set_option maxHeartbeats 2000000 in
theorem Fill_any (s : ByteArray) (vz : Value) (Z : List Int) (sz : Int) (w : World) (hz : IntsAt w vz Z) (hzl : Z.length * 8 ≤ 140737488351232) :
    Calls Try.prog 7 #[.string s, vz, .int .i64 sz] w fun e w' => e = .returned (.tuple #[.string (fillOut s Z sz).1, .int .i64 (fillOut s Z sz).2.1, .int .i64 (fillOut s Z sz).2.2]) ∧ Below w.heap.size w w' := by
  have HZ := hide hz
  obtain ⟨za, zcap, rfl, hz1, hz2, hz3⟩ := hz
  have HZ2 := hide hz2
  have HZ3 := hide hz3
  clear hz2 hz3
  go_enter Try.func7, Try.ntmps7
  go_wp2_with fail
  refine (soundCode_any s _).mono ?_
  rintro e w1 ⟨⟨pa, pn, pcap, rfl, hin⟩, hb1⟩
  have HB1 := hide hb1
  clear hb1
  by_cases hve : vE s ≠ 0
  · have HO := hide (pk_eta _ (show fillOut s Z sz = (noBytes, vE s, vP s) by rw [fillOut, if_pos hve]))
    have hve2 : (vE s != 0) = true := by simpa using hve
    clear hve
    go_wp2
    go_ret3
    exact ⟨by rw [(unhide HO).1, (unhide HO).2.1, (unhide HO).2.2]; rfl, unhide HB1⟩
  have hve : vE s = 0 := by omega
  have HIN := hide (hin hve)
  have HVE := hide hve
  have hve2 : (vE s != 0) = false := by rw [hve]; rfl
  clear hin hve
  by_cases hs0 : sz < 0
  · have HO := hide (pk_eta _ (show fillOut s Z sz = (noBytes, 10, 0) by rw [fillOut, if_neg (by rw [unhide HVE]; simp), if_pos (.inl hs0)]))
    go_wp2
    go_ret3
    exact ⟨by rw [(unhide HO).1, (unhide HO).2.1, (unhide HO).2.2]; rfl, unhide HB1⟩
  by_cases hs8 : 8 < sz
  · have HO := hide (pk_eta _ (show fillOut s Z sz = (noBytes, 10, 0) by rw [fillOut, if_neg (by rw [unhide HVE]; simp), if_pos (.inr hs8)]))
    go_wp2
    go_ret3
    exact ⟨by rw [(unhide HO).1, (unhide HO).2.1, (unhide HO).2.2]; rfl, unhide HB1⟩
  by_cases hl8 : 8 < Z.length
  · have HO := hide (pk_eta _ (show fillOut s Z sz = (noBytes, 8, 0) by rw [fillOut, if_neg (by rw [unhide HVE]; simp), if_neg (by omega), if_pos hl8]))
    have hl8' : (8 : Int) < (Z.length : Int) := by omega
    go_wp2
    go_ret3
    exact ⟨by rw [(unhide HO).1, (unhide HO).2.1, (unhide HO).2.2]; rfl, unhide HB1⟩
  have HO := hide (show fillOut s Z sz = if (runL (codeL s) (st0 Z)).2.1 ≠ 0 then (noBytes, (runL (codeL s) (st0 Z)).2.1, (runL (codeL s) (st0 Z)).2.2) else (payB (runL (codeL s) (st0 Z)).1.N sz.toNat, 0, 0) by rw [fillOut, if_neg (by rw [unhide HVE]; simp), if_neg (by omega), if_neg hl8])
  have hl8' : (Z.length : Int) ≤ 8 := by omega
  obtain ⟨R, HR⟩ : ∃ R, Hid (R = runL (codeL s) (st0 Z)) := ⟨_, hide rfl⟩
  rw [← unhide HR] at HO
  go_wp2
  go_loopw [13] (fun i wr => ∃ k : Nat, k ≤ Z.length ∧ i = .int .i64 k ∧ MachAt wr w1.heap.size (stTo Z k) ∧ Below w1.heap.size w1 wr) (fun i _ => Z.length - (intOf i).toNat)
  case atStart => exact ⟨0, by omega, rfl, mach_new w1 Z, (Below.refl _ _).alloc (Nat.le_refl _) _⟩
  case round =>
    obtain ⟨k, hk, rfl, hm, hb⟩ := hrel
    have HM := hide hm
    have HB := hide hb
    clear hm hb
    by_cases hlt : k < Z.length
    · cases za with
      | none => have := unhide HZ2 rfl; omega
      | some xa =>
        have hzc := ints_cell (unhide HZ3 xa rfl) ((unhide HB1).trans ((unhide HB).mono (unhide HB1).size)) hlt
        have hrc := (unhide HM).reg (show k < 8 by omega)
        have hfr := (unhide HM).free k
        have hi0 : (0 : Int) ≤ (k : Int) := by omega
        have hi1 : (k : Int) < (Z.length : Int) := by omega
        have hi2 : (k : Int) < 8 := by omega
        go_wp2
        go_roundw
        case rel => exact ⟨k + 1, by omega, by go_num, by rw [← stTo_succ]; exact (unhide HM).setReg (by omega) _, (unhide HB).setCell (Nat.le_refl _) _⟩
        case measure => simp [intOf]; omega
    · have hkz : k = Z.length := by omega
      rw [hkz, stTo_all] at HM
      clear hkz
      go_wp2_with fail
      refine (run_any w1.heap.size _ (codeL s) (st0 Z) w1 _ (unhide HIN) (Nat.le_refl _) (unhide HB) (unhide HM) (by simp [st0]) (code_fine (unhide HVE)).1 (code_fine (unhide HVE)).2).mono ?_
      rintro e w2 ⟨rfl, hm2, _, hb2⟩
      rw [← unhide HR] at hm2 ⊢
      have HM2 := hide hm2
      have HB2 := hide ((unhide HB1).trans (((unhide HB).trans hb2).mono (unhide HB1).size))
      clear hm2 hb2
      by_cases hre : R.2.1 ≠ 0
      · have HP := hide (pk_eta _ (show fillOut s Z sz = (noBytes, R.2.1, R.2.2) by rw [unhide HO, if_pos hre]))
        have hre2 : (R.2.1 != 0) = true := by simpa using hre
        clear hre
        go_wp2
        go_ret3
        exact ⟨by rw [(unhide HP).1, (unhide HP).2.1, (unhide HP).2.2]; rfl, unhide HB2⟩
      · have HP := hide (pk_eta _ (show fillOut s Z sz = (payB R.1.N sz.toNat, 0, 0) by rw [unhide HO, if_neg hre]))
        have hre2 : (R.2.1 != 0) = false := by simpa using hre
        have hnc := (unhide HM2).bits
        obtain ⟨q, hq⟩ : ∃ q : Nat, sz = q := ⟨sz.toNat, by omega⟩
        have HQ := hide hq
        clear hre hq
        go_wp2_with fail
        rw [unhide HQ]
        refine (payloadText_any R.1.N q _ (by have := unhide HQ; omega)).mono ?_
        rintro e w3 ⟨rfl, hb3⟩
        have HB3 := hide ((unhide HB2).trans (hb3.mono (unhide HB2).size))
        clear hb3 hnc
        go_wp2
        go_ret3
        refine ⟨?_, unhide HB3⟩
        rw [(unhide HP).1, (unhide HP).2.1, (unhide HP).2.2, unhide HQ, Int.toNat_natCast]; rfl

end Go.Proofs.Ytljodhcfimklkab
