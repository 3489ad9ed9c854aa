import Derived.Test.YtljodhcfimklkabU4
namespace Go.Proofs.Ytljodhcfimklkab
open Go.RowKit

theorem pSigs_made (s : ByteArray) : ∀ (f i : Nat) (l : List Sg) (e : Nat), pSigs s f i = .inr (l, e) → ∀ x ∈ l, ∃ j, x = mkSig s j := by
  intro f
  induction f with
  | zero => intro i l e h; simp [pSigs] at h; obtain ⟨rfl, rfl⟩ := h; simp
  | succ f ih =>
    intro i l e h
    rw [pSigs] at h
    split at h
    · split at h
      · simp at h
      · cases hp : pSigs s f (i + 9) with
        | inl p => rw [hp] at h; simp at h
        | inr x =>
          obtain ⟨l', e'⟩ := x
          rw [hp] at h
          simp at h
          obtain ⟨rfl, rfl⟩ := h
          intro x hx
          rcases List.mem_cons.1 hx with rfl | hx
          · exact ⟨i, rfl⟩
          · exact ih _ _ _ hp x hx
    · simp at h; obtain ⟨rfl, rfl⟩ := h; simp

theorem pMsg_made {s : ByteArray} {i : Nat} {m : Mg} {e : Nat} (h : pMsg s i = .inr (m, e)) : ∀ x ∈ m.sigs, ∃ j, x = mkSig s j := by
  rw [pMsg] at h
  split at h
  · simp at h
  · cases hp : pSigs s 8 (i + 4) with
    | inl p => rw [hp] at h; simp at h
    | inr x =>
      obtain ⟨l, e'⟩ := x
      rw [hp] at h
      simp at h
      obtain ⟨rfl, rfl⟩ := h
      exact pSigs_made s 8 _ _ _ hp

theorem pDb_made (s : ByteArray) : ∀ (f i : Nat) (M : List Mg), pDb s f i = .inr M → ∀ m ∈ M, m.Ok ∧ ∀ x ∈ m.sigs, ∃ j, x = mkSig s j := by
  intro f
  induction f with
  | zero => intro i M h; simp [pDb] at h
  | succ f ih =>
    intro i M h
    rw [pDb] at h
    cases hp : pMsg s i with
    | inl p => rw [hp] at h; simp at h
    | inr x =>
      obtain ⟨m, e⟩ := x
      rw [hp] at h
      simp only at h
      have hm : m.Ok ∧ ∀ x ∈ m.sigs, ∃ j, x = mkSig s j := ⟨(pMsg_ok hp).1, pMsg_made hp⟩
      split at h
      · simp at h; subst h; intro m' hm'; simp at hm'; subst hm'; exact hm
      · split at h
        · cases hd : pDb s f (e + 1) with
          | inl p => rw [hd] at h; simp at h
          | inr l =>
            rw [hd] at h
            simp at h
            subst h
            intro m' hm'
            rcases List.mem_cons.1 hm' with rfl | hm'
            · exact hm
            · exact ih _ _ hd m' hm'
        · simp at h

theorem mAt_mem {M : List Mg} {k : Nat} (h : k < M.length) : mAt M k ∈ M := by
  rw [mAt, List.getD_eq_getElem?_getD, List.getElem?_eq_getElem h]; exact List.getElem_mem h

theorem good_of {s : ByteArray} {M : List Mg} (h : pDb s 4 0 = .inr M) {k : Nat} (hk : k < M.length) : (mAt M k).Ok ∧ Good (mAt M k).sigs := by
  obtain ⟨h1, h2⟩ := pDb_made s 4 0 M h _ (mAt_mem hk)
  refine ⟨h1, h1.len, fun j hj => ?_⟩
  obtain ⟨i, hi⟩ := h2 (sgAt (mAt M k).sigs j) (by rw [sgAt_eq _ _ hj]; exact List.getElem_mem hj)
  refine ⟨sigs_ok h1 j hj, ?_, ?_⟩
  · rw [hi]; exact bt_lo _ _
  · rw [hi]; exact bt_hi _ _

/-- In a sound database nothing is wrong with any signal. -/
theorem sound_at {s : ByteArray} {M : List Mg} (hz : chkE s = 0) (h : pDb s 4 0 = .inr M) {k : Nat} (hk : k < M.length) {j : Nat} (hj : j < (mAt M k).sigs.length) : errAt (mAt M k).sigs (mAt M k).sz j = 0 := by
  have hl : ¬ 320 < s.size := by
    intro hl
    rw [(chk_long hl).1] at hz; omega
  rw [(chk_db hl h).1] at hz
  have hix : errDbIx M = M.length := by
    have hle := firstIx_le (fun n => decide (mE M n ≠ 0)) M.length
    by_cases h2 : errDbIx M < M.length
    · have := firstIx_yes (fun n => decide (mE M n ≠ 0)) M.length h2
      rw [(errDb_is rfl h2).1] at hz
      simp only [decide_eq_true_eq] at this
      exact absurd hz this
    · unfold errDbIx at h2 ⊢; omega
  have hm := firstIx_no (fun n => decide (mE M n ≠ 0)) M.length k (by unfold errDbIx at hix; omega)
  simp only [decide_eq_false_iff_not, Decidable.not_not] at hm
  rw [mE] at hm
  split at hm
  · omega
  · have hle := firstIx_le (fun i => decide (errAt (mAt M k).sigs (mAt M k).sz i ≠ 0)) (mAt M k).sigs.length
    by_cases h2 : errIx (mAt M k).sigs (mAt M k).sz < (mAt M k).sigs.length
    · have := firstIx_yes (fun i => decide (errAt (mAt M k).sigs (mAt M k).sz i ≠ 0)) _ h2
      rw [(errSigs_is rfl h2).1] at hm
      simp only [decide_eq_true_eq] at this
      exact absurd hm this
    · have := firstIx_no (fun i => decide (errAt (mAt M k).sigs (mAt M k).sz i ≠ 0)) (mAt M k).sigs.length j (by unfold errIx at h2; omega)
      simpa using this

theorem sound_fits {s : ByteArray} {M : List Mg} (hz : chkE s = 0) (h : pDb s 4 0 = .inr M) {k : Nat} (hk : k < M.length) : AllFits (mAt M k).sigs := fun _ hj =>
  errOf_fits (good_of h hk).1.sz1 (sound_at hz h hk hj)

def choiceOf (L : List Sg) (Z : List Int) : Int := if 0 ≤ muxOf L then zAt Z (muxOf L).toNat else 0
theorem mux_range (L : List Sg) : muxOf L = -1 ∨ ∃ k : Nat, k < L.length ∧ muxOf L = k ∧ (sgAt L k).rl = 77 := by
  rcases findIx_cases (fun k => decide ((sgAt L k).rl = 77)) L.length with ⟨h, _⟩ | ⟨k, hk, h, h2⟩
  · exact .inl h
  · exact .inr ⟨k, hk, h, by simpa using h2⟩

def noBytes : ByteArray := { data := #[] }
/-- P4, of a message. -/
def pkMsg (m : Mg) (Z : List Int) : ByteArray × Int × Int :=
  if Z.length ≠ m.sigs.length then (noBytes, 8, 0)
  else if 0 ≤ firstUn m.sigs Z (choiceOf m.sigs Z) then (noBytes, 9, firstUn m.sigs Z (choiceOf m.sigs Z))
  else (payB (bitsTo m.sigs Z (choiceOf m.sigs Z) m.sigs.length) m.sz.toNat, 0, 0)
/-- P4. -/
def pk (s id : ByteArray) (Z : List Int) : ByteArray × Int × Int :=
  if chkE s ≠ 0 then (noBytes, chkE s, chkP s) else
  match pDb s 4 0 with
  | .inl _ => (noBytes, 0, 0)
  | .inr M => if msgIx M id < 0 then (noBytes, 7, 0) else pkMsg (mAt M (msgIx M id).toNat) Z

theorem pk_bad {s id : ByteArray} {Z : List Int} (h : chkE s ≠ 0) : pk s id Z = (noBytes, chkE s, chkP s) := by rw [pk, if_pos h]
theorem pk_id {s id : ByteArray} {Z : List Int} {M : List Mg} (h : chkE s = 0) (hp : pDb s 4 0 = .inr M) (hi : msgIx M id = -1) : pk s id Z = (noBytes, 7, 0) := by
  rw [pk, if_neg (by omega), hp]; simp only; rw [if_pos (by omega)]
theorem pk_msg {s id : ByteArray} {Z : List Int} {M : List Mg} {k : Nat} (h : chkE s = 0) (hp : pDb s 4 0 = .inr M) (hi : msgIx M id = k) : pk s id Z = pkMsg (mAt M k) Z := by
  rw [pk, if_neg (by omega), hp]; simp only; rw [if_neg (by omega), hi, Int.toNat_natCast]

end Go.Proofs.Ytljodhcfimklkab
