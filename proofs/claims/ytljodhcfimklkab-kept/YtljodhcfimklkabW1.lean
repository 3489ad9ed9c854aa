import Derived.Test.YtljodhcfimklkabV1
namespace Go.Proofs.Ytljodhcfimklkab
open Go.RowKit

theorem Try.infoInt : (Try.prog.info? 3).map (fun i => (i.zero, i.size, i.bytes)) = some (some (.int .i64 0), 1, 8) := by kernel_rfl

/-- A row of the call's own, read as numbers. -/
theorem IntsAt_own {w : World} {B : Nat} {g cap : Nat} {Z : List Int} (h : w.ownsRow B 3 1 (.slice (some ⟨g, 0, none⟩) Z.length cap) Z.length (Z.map (Value.int .i64))) : IntsAt w (.slice (some ⟨g, 0, none⟩) Z.length cap) Z := by
  rcases h.2 with ⟨h', _⟩ | ⟨g', cap', cur, h', _, hg, hnc, hcm, hcs, ht⟩
  · simp at h'
  · cases h'
    refine ⟨_, _, rfl, hnc, by simp, fun x hx => ?_⟩
    cases hx
    refine ⟨fun _ => blk_lt hg, fun i hi => ?_⟩
    have e : (⟨g, 0, none⟩ : Addr).add i = ⟨g, i, none⟩ := by unfold Addr.add; split <;> simp_all
    rw [e, h.cellAt i (by omega)]
    simp [zAt, hi]

theorem set_take_succ (Z : List Int) (k : Nat) (hk : k < Z.length) (R : List Value) (hR : R = (Z.take k).map (Value.int .i64) ++ List.replicate (Z.length - k) (.int .i64 0)) :
    R.set k (.int .i64 (zAt Z k)) = (Z.take (k + 1)).map (Value.int .i64) ++ List.replicate (Z.length - (k + 1)) (.int .i64 0) := by
  subst hR
  have h1 : ((Z.take k).map (Value.int .i64)).length = k := by simp; omega
  rw [List.set_append_right _ _ (by omega), h1, Nat.sub_self]
  obtain ⟨n, hn⟩ : ∃ n, Z.length - k = n + 1 := ⟨Z.length - k - 1, by omega⟩
  rw [hn, List.replicate_succ, List.set_cons_zero, show Z.length - (k + 1) = n by omega]
  rw [List.take_succ_eq_append_getElem hk, List.map_append, List.append_assoc]
  simp [zAt, hk]

set_option maxRecDepth 100000 in
set_option maxHeartbeats 1000000 in
theorem copied_any (v : Value) (Z : List Int) (w : World) (hz : IntsAt w v Z) (hr : Z.length * 8 ≤ 140737488351232) :
    Calls Try.prog 4 #[v] w fun e w' => ∃ u, e = .returned u ∧ IntsAt w' u Z ∧ Below w.heap.size w w' := by
  obtain ⟨i0, hinf, hz0, hzz1, hzz2⟩ := info_parts Try.infoInt
  have HINF := hide hinf
  have HZ0 := hide hz0
  have HZ1 := hide hzz1
  have HZ2 := hide hzz2
  clear hinf hz0 hzz1
  obtain ⟨za, zcap, rfl, hz1, hz2, hz3⟩ := hz
  have HN := hide hz2
  have HC := hide hz3
  clear hz2 hz3
  go_enter Try.func4, Try.ntmps4
  go_wp2_with (at_make; refine wpList_make_full _ rfl _ _ 22 rfl w.heap.size 3 i0 (.int .i64 0) 1 Try.underlying22 (unhide HINF) (unhide HZ0) (unhide HZ1) .i64 .i64 (Z.length : Int) (Z.length : Int) Z.length rfl rfl rfl rfl (by rw [hzz2]; omega) (by unfold maxLen; omega) (Nat.le_refl _) ?_)
  intro w1 hown hgrow
  have HB1 := hide ((Below.refl w.heap.size w).grown hgrow (Nat.le_refl _) (by simp))
  have HOWN := hide hown
  clear hown hgrow hzz2
  go_wp2
  go_loopw [4] (fun i wr => ∃ k : Nat, k ≤ Z.length ∧ i = .int .i64 k ∧ wr.ownsRow w.heap.size 3 1 (.slice (some ⟨w.heap.size, 0, none⟩) Z.length Z.length) Z.length ((Z.take k).map (Value.int .i64) ++ List.replicate (Z.length - k) (.int .i64 0)) ∧ Below w.heap.size w wr) (fun i _ => Z.length - (intOf i).toNat)
  case atStart =>
    refine ⟨0, by omega, rfl, ?_, unhide HB1⟩
    have := unhide HOWN
    rw [toList_madeCells_one] at this
    simpa using this
  case round =>
    obtain ⟨k, hk, rfl, hown, hb⟩ := hrel
    have HO := hide hown
    have HB := hide hb
    by_cases hlt : k < Z.length
    · cases za with
      | none => have := unhide HN rfl; omega
      | some xa =>
        have hzc := ints_cell (unhide HC xa rfl) hb hlt
        have hoc := hown.cellAt k (by omega)
        have hof := hown.frozenAt k
        have hst := hown.stored k (.int .i64 (zAt Z k))
        rw [set_take_succ Z k hlt _ rfl] at hst
        have HST := hide hst
        obtain ⟨ov, hov⟩ : ∃ ov, wr.cell? ⟨w.heap.size, k, none⟩ = some ov := ⟨_, hoc.trans (List.getElem?_eq_getElem (by simp; omega))⟩
        have hi0 : (0 : Int) ≤ (k : Int) := by omega
        have hi1 : (k : Int) < (Z.length : Int) := by omega
        clear hst hoc hown hb
        go_wp2
        go_roundw
        case rel => exact ⟨k + 1, by omega, by go_num, (unhide HST).1, (unhide HB).setCell (Nat.le_refl _) _⟩
        case measure => simp [intOf]; omega
    · have hkz : k = Z.length := by omega
      have HK := hide hkz
      clear hkz hown hb
      go_wp2
      go_ret
      refine ⟨_, rfl, ?_, unhide HB⟩
      have := unhide HO
      rw [unhide HK, List.take_of_length_le (Nat.le_refl _), Nat.sub_self, List.replicate_zero, List.append_nil] at this
      exact IntsAt_own this

end Go.Proofs.Ytljodhcfimklkab
