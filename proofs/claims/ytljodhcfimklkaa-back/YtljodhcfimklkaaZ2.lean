import Derived.Test.YtljodhcfimklkaaZ1
import Derived.Test.YtljodhcfimklkaaY6
import Derived.Test.YtljodhcfimklkaaU5
namespace Go.Proofs.Ytljodhcfimklkaa
open Go.RowKit

theorem pk_ok {s id : ByteArray} {Z : List Int} (h : (pk s id Z).2.1 = 0) : chkE s = 0 ∧ ¬ 320 < s.size ∧ ∃ M k, pDb s 4 0 = .inr M ∧ k < M.length ∧ msgIx M id = (k : Nat) ∧ Z.length = (mAt M k).sigs.length ∧
    firstUn (mAt M k).sigs Z (choiceOf (mAt M k).sigs Z) < 0 ∧ (pk s id Z).1 = payB (bitsTo (mAt M k).sigs Z (choiceOf (mAt M k).sigs Z) (mAt M k).sigs.length) (mAt M k).sz.toNat := by
  have hz : chkE s = 0 := by
    by_cases hz : chkE s = 0
    · exact hz
    · rw [pk_bad hz] at h; exact h
  have hl : ¬ 320 < s.size := by
    intro hl
    rw [(chk_long hl).1] at hz; omega
  refine ⟨hz, hl, ?_⟩
  cases hp : pDb s 4 0 with
  | inl p => rw [(chk_text hl hp).1] at hz; omega
  | inr M =>
    rcases findIx_cases (fun k => decide ((mAt M k).id = id)) M.length with ⟨hn, _⟩ | ⟨k, hk, hkk, _⟩
    · rw [pk_id hz hp hn] at h; simp at h
    · have e : msgIx M id = k := hkk
      have hm := pk_msg (Z := Z) hz hp e
      rw [hm] at h ⊢
      rw [pkMsg] at h
      split at h
      · simp at h
      · rename_i hln
        split at h
        · simp at h
        · rename_i hu
          refine ⟨M, k, rfl, hk, e, by omega, by omega, ?_⟩
          rw [pkMsg, if_neg hln, if_neg hu]

theorem signs_at (L : List Sg) (c : Int) {k : Nat} (h : k < (strOfNums (signsL L c L.length)).size) : ((strOfNums (signsL L c L.length))[k].toNat : Int) = signN L c k := by
  have e : (strOfNums (signsL L c L.length))[k] = UInt8.ofNat (signN L c k).toNat := by
    simp [strOfNums, signsL, ByteArray.getElem_eq_getElem_data]
  rw [e, signN]
  split <;> rfl

/-- P6: what is unpacked of what was packed. -/
theorem up_back {s id : ByteArray} {Z : List Int} {M : List Mg} {k : Nat} (hz : chkE s = 0) (hp : pDb s 4 0 = .inr M) (hk : k < M.length) (hix : msgIx M id = k)
    (hu : firstUn (mAt M k).sigs Z (choiceOf (mAt M k).sigs Z) < 0) :
    ∃ V T, up s id (payB (bitsTo (mAt M k).sigs Z (choiceOf (mAt M k).sigs Z) (mAt M k).sigs.length) (mAt M k).sz.toNat) = (V, T, 0, 0) ∧ V.length = (mAt M k).sigs.length ∧ T.size = (mAt M k).sigs.length ∧
      ∀ j, j < (mAt M k).sigs.length → zAt V j = backAt (mAt M k).sigs Z j ∧ ∀ h : j < T.size, (T[j].toNat : Int) = signN (mAt M k).sigs (choiceOf (mAt M k).sigs Z) j := by
  obtain ⟨ok, hg⟩ := good_of hp hk
  have h0 := ok.sz0
  have h1 := ok.sz1
  have hs : Sound (mAt M k).sigs (mAt M k).sz := fun j hj => sound_at hz hp hk hj
  have hw := sound_within hz hp hk
  have hsz : (payB (bitsTo (mAt M k).sigs Z (choiceOf (mAt M k).sigs Z) (mAt M k).sigs.length) (mAt M k).sz.toNat).size = (mAt M k).sz.toNat := by rw [payB, strOfNums_size, bytesL_len]
  rw [up_msg (by omega) hz hp hix, upMsg, if_neg (by rw [hsz]; omega)]
  rw [choice_back hs hg hw h0 hu]
  refine ⟨_, _, rfl, valsL_len _ _ _ _, by rw [strOfNums_size]; simp [signsL], fun j hj => ⟨vals_back hs hg hw h0 hu hj, fun h => signs_at _ _ h⟩⟩

set_option maxRecDepth 100000 in
set_option maxHeartbeats 1000000 in
theorem lChosen_any (id : ByteArray) (sz pl : Int) (v vz : Value) (L : List Sg) (Z : List Int) (w : World) (h : RSigsAt w v L) (hl : L.length ≤ 8) (hz : IntsAt w vz Z) (hlen : Z.length = L.length) :
    Calls Try.prog 25 #[.agg #[.string id, .int .i64 sz, v, .int .i64 pl], vz] w fun e w' => e = .returned (.int .i64 (choiceOf L Z)) ∧ Below w.heap.size w w' := by
  obtain ⟨za, zcap, rfl, hz1, hz2, hz3⟩ := hz
  have HN := hide hz2
  have HZC := hide hz3
  clear hz2 hz3
  have hle1 : Z.length ≤ L.length := by omega
  have hle2 : L.length ≤ Z.length := by omega
  clear hlen
  rcases h.opened with ⟨rfl, a, c, rfl⟩ | ⟨g, cap, rfl, hg, hcap, _, hc⟩
  · go_enter Try.func25, Try.ntmps25
    go_wp2
    refine wp_loop_rounds 1 ?_
    rw [rounds_succ]
    go_wp2
    go_ret
    exact ⟨ret_int (by simp [choiceOf, muxOf, findIx]), (Below.refl _ _).alloc (Nat.le_refl _) _⟩
  · have HC := hide hc
    clear hc
    go_enter Try.func25, Try.ntmps25
    go_wp2
    go_loop [5] (fun i => ∃ k : Nat, k ≤ L.length ∧ i = .int .i64 k ∧ ∀ j, j < k → decide ((sgAt L j).rl = 77) = false) (fun i => L.length - (intOf i).toNat)
    case atStart => exact ⟨0, by omega, rfl, by intro j hj; omega⟩
    case round =>
      obtain ⟨k, hk, rfl, hno⟩ := hrel
      have HNO := hide hno
      clear hno
      by_cases hlt : k < L.length
      · have hc6 : ∀ o : Obj, (w.alloc o).cell? ⟨g, k * 7 + 5, none⟩ = some (.int .u8 (sgAt L k).rl) := fun o => by rw [alloc_cell hg]; exact (unhide HC) k 5 hlt (by omega)
        by_cases hm : (sgAt L k).rl = 77
        · have hmb : ((sgAt L k).rl == 77) = true := by simp [hm]
          have HM := hide hm
          cases za with
          | none => have := unhide HN rfl; omega
          | some xa =>
            have hzc := fun o : Obj => ints_cell (unhide HZC xa rfl) ((Below.refl w.heap.size w).alloc (Nat.le_refl _) o) (show k < Z.length by omega)
            have hi0 : (0 : Int) ≤ (k : Int) := by omega
            have hi1 : (k : Int) < (Z.length : Int) := by omega
            clear hm
            go_wp2
            go_ret
            exact ⟨ret_int (by
              have hmx : muxOf L = k := by rw [muxOf, findIx_is (unhide HNO) hlt (by simpa using unhide HM)]
              rw [choiceOf, hmx, if_pos (by omega), Int.toNat_natCast]), (Below.refl _ _).alloc (Nat.le_refl _) _⟩
        · have hmb : ((sgAt L k).rl == 77) = false := by simp [hm]
          have HM := hide hm
          clear hm
          go_wp2
          go_round
          case rel => exact ⟨k + 1, by omega, by go_num, fun j hj => by
            by_cases e : j = k
            · subst e; simpa using unhide HM
            · exact unhide HNO j (by omega)⟩
          case measure => simp [intOf]; omega
      · go_wp2
        go_ret
        exact ⟨ret_int (by
          have hmx : muxOf L = -1 := by rw [muxOf, findIx_none (fun j hj => unhide HNO j (by omega))]
          rw [choiceOf, hmx]; rfl), (Below.refl _ _).alloc (Nat.le_refl _) _⟩

end Go.Proofs.Ytljodhcfimklkaa
