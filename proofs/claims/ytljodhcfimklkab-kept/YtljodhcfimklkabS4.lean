import Derived.Test.YtljodhcfimklkabS3
namespace Go.Proofs.Ytljodhcfimklkab
open Go.RowKit

/-- P3: the error, and its place. -/
def chkE (s : ByteArray) : Int := if 320 < s.size then 1 else match pDb s 4 0 with | .inl _ => 2 | .inr M => errDbE M
def chkP (s : ByteArray) : Int := if 320 < s.size then 0 else match pDb s 4 0 with | .inl p => p | .inr M => errDbP M
theorem chk_long {s : ByteArray} (h : 320 < s.size) : chkE s = 1 ∧ chkP s = 0 := by rw [chkE, chkP, if_pos h, if_pos h]; exact ⟨rfl, rfl⟩
theorem chk_text {s : ByteArray} {p : Nat} (h : ¬ 320 < s.size) (hp : pDb s 4 0 = .inl p) : chkE s = 2 ∧ chkP s = p := by rw [chkE, chkP, if_neg h, if_neg h, hp]; exact ⟨rfl, rfl⟩
theorem chk_db {s : ByteArray} {M : List Mg} (h : ¬ 320 < s.size) (hp : pDb s 4 0 = .inr M) : chkE s = errDbE M ∧ chkP s = errDbP M := by rw [chkE, chkP, if_neg h, if_neg h, hp]; exact ⟨rfl, rfl⟩

theorem errDb_ok {M : List Mg} (h : errDbE M = 0) : errDbP M = 0 := by
  have hle := firstIx_le (fun n => decide (mE M n ≠ 0)) M.length
  by_cases h2 : errDbIx M < M.length
  · have := firstIx_yes (fun n => decide (mE M n ≠ 0)) M.length h2
    rw [(errDb_is rfl h2).1] at h
    simp only [decide_eq_true_eq] at this
    exact absurd h this
  · exact (errDb_none (by unfold errDbIx at h2 ⊢; omega)).2

/-- What soundMessages answers. -/
def SndOut (s : ByteArray) (e : Ending) (w' : World) : Prop :=
  (chkE s = 0 ∧ ∃ v P, e = .returned (.tuple #[v, .int .i64 0, .int .i64 0]) ∧ pDb s 4 0 = .inr (P.map Prod.fst) ∧ MsgsAt 0 w' v P ∧ P.length ≤ 4 ∧ ∀ x ∈ P, x.1.Ok) ∨
  (chkE s ≠ 0 ∧ e = .returned (.tuple #[.slice none 0 0, .int .i64 (chkE s), .int .i64 (chkP s)]))

set_option maxHeartbeats 400000 in
theorem soundMessages_any (s : ByteArray) (w : World) (hs : s.size ≤ maxLen) :
    Calls Try.prog 25 #[.string s] w fun e w' => SndOut s e w' ∧ Below w.heap.size w w' := by
  unfold maxLen at hs
  by_cases hlong : 320 < s.size
  · have HC := hide (chk_long hlong)
    go_enter Try.func25, Try.ntmps25
    go_wp2
    go_ret3
    refine ⟨.inr ⟨by rw [(unhide HC).1]; decide, ?_⟩, Below.refl _ _⟩
    rw [(unhide HC).1, (unhide HC).2]; rfl
  · go_enter Try.func25, Try.ntmps25
    go_wp2_with fail
    refine (readDatabase_any s _ (by omega)).mono ?_
    rintro e w1 ⟨hout, hb1⟩
    have HB1 := hide hb1
    clear hb1
    cases hpd : pDb s 4 0 with
    | inl p =>
      rw [DbOut, hpd] at hout
      dsimp only at hout
      subst hout
      have HC := hide (chk_text hlong hpd)
      clear hpd
      go_wp2
      go_ret3
      refine ⟨.inr ⟨by rw [(unhide HC).1]; decide, ?_⟩, unhide HB1⟩
      rw [(unhide HC).1, (unhide HC).2]; rfl
    | inr M =>
      rw [DbOut, hpd] at hout
      dsimp only at hout
      obtain ⟨v, P, q, rfl, rfl, hm, hl, hok⟩ := hout
      obtain ⟨sa, cap, rfl⟩ := ownsRow_form hm.1
      have HM := hide hm
      have HOK := hide hok
      have HPD := hide hpd
      have HC := hide (chk_db hlong hpd)
      clear hm hok hpd
      go_wp2_with fail
      refine (checkMessages_any _ P _ (unhide HM) hl (unhide HOK)).mono ?_
      rintro e w2 ⟨rfl, hb2⟩
      have HM2 := hide ((unhide HM).below hb2)
      have HB2 := hide ((unhide HB1).trans (hb2.mono (unhide HB1).size))
      clear hb2
      by_cases hz : errDbE (P.map Prod.fst) = 0
      · have hz2 : (errDbE (P.map Prod.fst) != 0) = false := by rw [hz]; rfl
        have HZ := hide hz
        clear hz
        go_wp2
        go_ret3
        exact ⟨.inl ⟨by rw [(unhide HC).1]; exact unhide HZ, _, P, rfl, unhide HPD, unhide HM2, hl, unhide HOK⟩, unhide HB2⟩
      · have hz2 : (errDbE (P.map Prod.fst) != 0) = true := by simpa using hz
        have HZ := hide hz
        clear hz
        go_wp2
        go_ret3
        refine ⟨.inr ⟨by rw [(unhide HC).1]; exact unhide HZ, ?_⟩, unhide HB2⟩
        rw [(unhide HC).1, (unhide HC).2]; rfl

theorem chk_ok {s : ByteArray} (h : chkE s = 0) : chkP s = 0 := by
  by_cases hl : 320 < s.size
  · exact (chk_long hl).2
  · cases hp : pDb s 4 0 with
    | inl p => rw [(chk_text hl hp).1] at h; omega
    | inr M => rw [(chk_db hl hp).2]; rw [(chk_db hl hp).1] at h; exact errDb_ok h

end Go.Proofs.Ytljodhcfimklkab
