import Derived.Test.YtljodhcfimklkaaM9
namespace Go.Proofs.Ytljodhcfimklkaa
open Go.RowKit

theorem Verify_any (s : ByteArray) (w : World) :
    Calls Try.prog 28 #[.string s] w fun e w' => e = .returned (.tuple #[.int .i64 (vE s), .int .i64 (vP s)]) ∧ Below w.heap.size w w' := by
  go_enter Try.func28, Try.ntmps28
  go_wp2_with fail
  refine (soundCode_any s _).mono ?_
  rintro e w1 ⟨⟨a, n, cap, rfl, _⟩, hb⟩
  go_wp2
  go_ret2
  exact ⟨rfl, hb⟩

/-- The signs of the first k registers; the eight registers. -/
def signM (s : St) (j : Nat) : Int := if s.mark j then 43 else 45
def signsM (s : St) (k : Nat) : List Int := (List.range k).map (signM s)
theorem signsM_succ (s : St) (k : Nat) : signsM s (k + 1) = signsM s k ++ [signM s k] := by simp [signsM, List.range_succ]
theorem signsM_len (s : St) (k : Nat) : (signsM s k).length = k := by simp [signsM]
def regsM (s : St) (k : Nat) : List Int := (List.range k).map s.reg
theorem regsM_succ (s : St) (k : Nat) : regsM s (k + 1) = regsM s k ++ [s.reg k] := by simp [regsM, List.range_succ]
theorem regsM_len (s : St) (k : Nat) : (regsM s k).length = k := by simp [regsM]

set_option maxRecDepth 100000 in
set_option maxHeartbeats 2000000 in
theorem signs_any (g : Nat) (s : St) (w : World) (hm : MachAt w g s) :
    Calls Try.prog 60 #[.pointer (some ⟨g, 0, none⟩)] w fun e w' => e = .returned (.string (strOfNums (signsM s 8))) ∧ Below w.heap.size w w' := by
  obtain ⟨i0, hinf, hz0, hz1, hz2⟩ := info_parts Try.infoU8
  have HINF := hide hinf
  have HZ0 := hide hz0
  have HZ1 := hide hz1
  have HZ2 := hide hz2
  have HM := hide hm
  clear hinf hz0 hz1 hz2 hm
  go_enter Try.func60, Try.ntmps60
  go_wp2
  go_loopw [3, 4] (fun v i wr => ∃ k : Nat, k ≤ 8 ∧ i = .int .i64 k ∧ wr.ownsRow w.heap.size 5 1 v k ((signsM s k).map (Value.int .u8)) ∧ Below w.heap.size w wr) (fun _ i _ => 8 - (intOf i).toNat)
  case atStart => exact ⟨0, by omega, rfl, ⟨by simp [signsM], .inr ⟨_, 0, #[], rfl, Nat.le_refl _, blk_new _ _, by simp, by simp [maxLen], by simp, by simp [signsM]⟩⟩, (Below.refl _ _).alloc (Nat.le_refl _) _⟩
  case round =>
    obtain ⟨k, hk, rfl, hown, hb⟩ := hrel
    obtain ⟨sa, cap, rfl⟩ := ownsRow_form hown
    have HOWN := hide hown
    have HB := hide hb
    clear hown hb
    by_cases hlt : k < 8
    · have hmk := ((unhide HM).bel (unhide HB)).mark hlt
      have hi0 : (0 : Int) ≤ (k : Int) := by omega
      have hi1 : (k : Int) < 8 := by omega
      cases hon : s.mark k with
      | true =>
        rw [hon] at hmk
        have HSG := hide (show signM s k = 43 by simp [signM, hon])
        clear hon
        go_wp2_with (at_builtin; refine wpList_append_own _ rfl _ _ 38 rfl w.heap.size 5 i0 _ 1 1 Try.underlying38 (unhide HINF) (unhide HZ0) (unhide HZ1) (unhide HZ2) rfl (by decide) _ _ _ rfl ((unhide HOWN).alloc _) ⟨wr.heap.size, 0, none⟩ 1 1 [.int .u8 43] rfl rfl ?c1 ?c2 ?c3 ?c4 ?c5 ?_)
        case c1 => exact new_cells (blk_new _ _)
        case c2 => simp [Value.oneCell']
        case c3 => unfold maxLen; omega
        case c4 => omega
        case c5 => have := (unhide HB).size; simp; omega
        intro v3 w3 hown3 hgrow _
        obtain ⟨a3, cap3, rfl⟩ := ownsRow_form hown3
        have HB3 := hide (Below.grown ((unhide HB).alloc (unhide HB).size _) hgrow (by have := (unhide HB).size; simp; omega) (fun k hk => ((unhide HOWN).lt k hk).1))
        have HOWN3 := hide hown3
        clear hown3 hgrow hmk
        go_wp2
        go_roundw
        case rel =>
          refine ⟨k + 1, by omega, by go_num, ?_, unhide HB3⟩
          have := unhide HOWN3
          rw [signsM_succ, List.map_append, unhide HSG]
          exact this
        case measure => simp [intOf]; omega
      | false =>
        rw [hon] at hmk
        have HSG := hide (show signM s k = 45 by simp [signM, hon])
        clear hon
        go_wp2_with (at_builtin; refine wpList_append_own _ rfl _ _ 38 rfl w.heap.size 5 i0 _ 1 1 Try.underlying38 (unhide HINF) (unhide HZ0) (unhide HZ1) (unhide HZ2) rfl (by decide) _ _ _ rfl ((unhide HOWN).alloc _) ⟨wr.heap.size, 0, none⟩ 1 1 [.int .u8 45] rfl rfl ?c1 ?c2 ?c3 ?c4 ?c5 ?_)
        case c1 => exact new_cells (blk_new _ _)
        case c2 => simp [Value.oneCell']
        case c3 => unfold maxLen; omega
        case c4 => omega
        case c5 => have := (unhide HB).size; simp; omega
        intro v3 w3 hown3 hgrow _
        obtain ⟨a3, cap3, rfl⟩ := ownsRow_form hown3
        have HB3 := hide (Below.grown ((unhide HB).alloc (unhide HB).size _) hgrow (by have := (unhide HB).size; simp; omega) (fun k hk => ((unhide HOWN).lt k hk).1))
        have HOWN3 := hide hown3
        clear hown3 hgrow hmk
        go_wp2
        go_roundw
        case rel =>
          refine ⟨k + 1, by omega, by go_num, ?_, unhide HB3⟩
          have := unhide HOWN3
          rw [signsM_succ, List.map_append, unhide HSG]
          exact this
        case measure => simp [intOf]; omega
    · have hkn : k = 8 := by omega
      have hconv := conv_row (unhide HOWN)
      have HK := hide hkn
      clear hkn
      go_wp2
      go_ret
      exact ⟨by rw [← unhide HK]; rfl, unhide HB⟩

end Go.Proofs.Ytljodhcfimklkaa
