import Derived.Test.YtljodhcfimklkabF2
import Derived.Test.YtljodhcfimklkabH4
namespace Go.Proofs.Ytljodhcfimklkab
open Go.RowKit

/-- A message of the text. -/
structure Mg where
  pl : Nat
  id : ByteArray
  sz : Int
  sigs : List Sg

def mkMsg (s : ByteArray) (i : Nat) (l : List Sg) : Mg := ⟨i, s.extract i (i + 3), bt s (i + 3) - 48, l⟩

/-- The signals from i on, f at the most: where it cannot go on, or they and where they end. -/
def pSigs (s : ByteArray) : Nat → Nat → Nat ⊕ (List Sg × Nat)
  | 0, i => .inr ([], i)
  | f + 1, i =>
    if i < s.size ∧ bt s i = 44 then
      if nSig s i < 9 then .inl (i + nSig s i) else
      match pSigs s f (i + 9) with
      | .inl p => .inl p
      | .inr (l, e) => .inr (mkSig s i :: l, e)
    else .inr ([], i)

def glue (acc : List Sg) : Nat ⊕ (List Sg × Nat) → Nat ⊕ (List Sg × Nat)
  | .inl p => .inl p
  | .inr (l, e) => .inr (acc ++ l, e)

theorem glue_nil (x : Nat ⊕ (List Sg × Nat)) : glue [] x = x := by
  rcases x with p | ⟨l, e⟩ <;> rfl

theorem glue_stop {s : ByteArray} {acc : List Sg} {f i : Nat} (h : f = 0 ∨ ¬ (i < s.size ∧ bt s i = 44)) : glue acc (pSigs s f i) = .inr (acc, i) := by
  cases f with
  | zero => simp [pSigs, glue]
  | succ f =>
    rw [pSigs, if_neg (by rcases h with h | h; omega; exact h)]
    simp [glue]

theorem glue_bad {s : ByteArray} {acc : List Sg} {f i : Nat} (hf : 0 < f) (h : i < s.size ∧ bt s i = 44) (hn : nSig s i < 9) : glue acc (pSigs s f i) = .inl (i + nSig s i) := by
  obtain ⟨f, rfl⟩ : ∃ k, f = k + 1 := ⟨f - 1, by omega⟩
  rw [pSigs, if_pos h, if_pos hn]; rfl

theorem glue_step {s : ByteArray} {acc : List Sg} {f i : Nat} (hf : 0 < f) (h : i < s.size ∧ bt s i = 44) (hn : ¬ nSig s i < 9) : glue acc (pSigs s f i) = glue (acc ++ [mkSig s i]) (pSigs s (f - 1) (i + 9)) := by
  obtain ⟨f, rfl⟩ : ∃ k, f = k + 1 := ⟨f - 1, by omega⟩
  rw [pSigs, if_pos h, if_neg hn]
  simp only [Nat.add_sub_cancel]
  rcases pSigs s f (i + 9) with p | ⟨l, e⟩ <;> simp [glue]

/-- The message at i. -/
def pMsg (s : ByteArray) (i : Nat) : Nat ⊕ (Mg × Nat) :=
  if nHead s i < 4 then .inl (i + nHead s i) else
  match pSigs s 8 (i + 4) with
  | .inl p => .inl p
  | .inr (l, e) => .inr (mkMsg s i l, e)

/-- The messages from i on, f at the most. -/
def pDb (s : ByteArray) : Nat → Nat → Nat ⊕ (List Mg)
  | 0, i => .inl (i - 1)
  | f + 1, i =>
    match pMsg s i with
    | .inl p => .inl p
    | .inr (m, e) =>
      if s.size ≤ e then .inr [m] else
      if bt s e = 59 then
        match pDb s f (e + 1) with
        | .inl p => .inl p
        | .inr l => .inr (m :: l)
      else .inl e

def glueM (acc : List Mg) : Nat ⊕ (List Mg) → Nat ⊕ (List Mg)
  | .inl p => .inl p
  | .inr l => .inr (acc ++ l)

theorem nSig_full {s : ByteArray} {i : Nat} (h : ¬ nSig s i < 9) : ∀ j, j < 9 → i + j < s.size ∧ sigB j (befB s i j) (bt s (i + j)) = true := by
  refine nSig_ok (fun j hj => ?_)
  have h9 : nSig s i = 9 := by have := firstIx_le (fun k => !sigOk s i k) 9; unfold nSig at h ⊢; omega
  have := firstIx_no (fun k => !sigOk s i k) 9 j (by unfold nSig at h9; omega)
  simpa using this

theorem nHead_full {s : ByteArray} {i : Nat} (h : ¬ nHead s i < 4) : ∀ j, j < 4 → i + j < s.size ∧ headB j (bt s (i + j)) = true := by
  intro j hj
  have h9 : nHead s i = 4 := by have := firstIx_le (fun k => !headOk s i k) 4; unfold nHead at h ⊢; omega
  have := firstIx_no (fun k => !headOk s i k) 4 j (by unfold nHead at h9; omega)
  simpa [headOk] using this

theorem dig_worth {a : Int} (h0 : 48 ≤ a) (h1 : a ≤ 57) : worth a = a - 48 := by rw [worth, if_neg (by omega)]

/-- A signal that has been read is within its bounds. -/
theorem mkSig_ok {s : ByteArray} {i : Nat} (h : ¬ nSig s i < 9) : (mkSig s i).Ok := by
  have hall := nSig_full h
  have d2 := (hall 2 (by omega)).2
  have d3 := (hall 3 (by omega)).2
  have d4 := (hall 4 (by omega)).2
  have d5 := (hall 5 (by omega)).2
  have d6 := (hall 6 (by omega)).2
  have d7 := (hall 7 (by omega)).2
  simp only [befB] at d2 d3 d4 d5 d6 d7
  simp [sigB, isDigB] at d2 d3 d4 d5 d6 d7
  have w2 := dig_worth (a := bt s (i + 2)) (by omega) (by omega)
  have w3 := dig_worth (a := bt s (i + 3)) (by omega) (by omega)
  have w4 := dig_worth (a := bt s (i + 4)) (by omega) (by omega)
  have w5 := dig_worth (a := bt s (i + 5)) (by omega) (by omega)
  refine ⟨?_, ?_, ?_, ?_, ?_, ?_⟩ <;> simp only [mkSig] <;> omega

theorem pSigs_ok (s : ByteArray) : ∀ (f i : Nat) (l : List Sg) (e : Nat), pSigs s f i = .inr (l, e) → l.length ≤ f ∧ (∀ x ∈ l, x.Ok) ∧ i ≤ e ∧ (i ≤ s.size → e ≤ s.size) := by
  intro f
  induction f with
  | zero => intro i l e h; simp [pSigs] at h; obtain ⟨rfl, rfl⟩ := h; simp
  | succ f ih =>
    intro i l e h
    rw [pSigs] at h
    split at h
    · split at h
      · simp at h
      · rename_i hn
        cases hp : pSigs s f (i + 9) with
        | inl p => rw [hp] at h; simp at h
        | inr x =>
          obtain ⟨l', e'⟩ := x
          rw [hp] at h
          simp at h
          obtain ⟨rfl, rfl⟩ := h
          obtain ⟨h1, h2, h3, h4⟩ := ih _ _ _ hp
          have hz := (nSig_full hn 8 (by omega)).1
          refine ⟨by simpa using h1, ?_, by omega, fun _ => h4 (by omega)⟩
          intro x hx
          rcases List.mem_cons.1 hx with rfl | hx
          · exact mkSig_ok hn
          · exact h2 x hx
    · simp at h; obtain ⟨rfl, rfl⟩ := h; simp

/-- A message that has been read is within its bounds. -/
structure Mg.Ok (m : Mg) : Prop where
  sz0 : 0 ≤ m.sz
  sz1 : m.sz ≤ 8
  len : m.sigs.length ≤ 8
  ok : ∀ x ∈ m.sigs, x.Ok
  id : m.id.size = 3
  good : idBad m.id = false

theorem bt_of_ge {s : ByteArray} {k : Nat} (h : ¬ k < s.size) : bt s k = 0 := by rw [bt, dif_neg h]

theorem idBad_extract {s : ByteArray} {i : Nat} (h : ¬ nHead s i < 4) : (s.extract i (i + 3)).size = 3 ∧ idBad (s.extract i (i + 3)) = false := by
  have hall := nHead_full h
  have h3 := (hall 3 (by omega)).1
  refine ⟨by rw [ByteArray.size_extract]; omega, ?_⟩
  refine anyIx_none (fun j hj => ?_)
  rw [bt_extract s i 3 j hj (by omega), (hall j (by omega)).2]; rfl

theorem mkMsg_ok {s : ByteArray} {i : Nat} {l : List Sg} {e : Nat} (h : ¬ nHead s i < 4) (hp : pSigs s 8 (i + 4) = .inr (l, e)) : (mkMsg s i l).Ok := by
  obtain ⟨h1, h2, _, _⟩ := pSigs_ok s 8 _ _ _ hp
  have h3 := (nHead_full h 3 (by omega)).2
  simp [headB] at h3
  obtain ⟨e1, e2⟩ := idBad_extract h
  exact ⟨by simp only [mkMsg]; omega, by simp only [mkMsg]; omega, h1, h2, e1, e2⟩

theorem pMsg_ok {s : ByteArray} {i : Nat} {m : Mg} {e : Nat} (h : pMsg s i = .inr (m, e)) : m.Ok ∧ i < e ∧ e ≤ s.size := by
  rw [pMsg] at h
  split at h
  · simp at h
  · rename_i hn
    cases hp : pSigs s 8 (i + 4) with
    | inl p => rw [hp] at h; simp at h
    | inr x =>
      obtain ⟨l, e'⟩ := x
      rw [hp] at h
      simp at h
      obtain ⟨rfl, rfl⟩ := h
      obtain ⟨_, _, h3, h4⟩ := pSigs_ok s 8 _ _ _ hp
      have := (nHead_full hn 3 (by omega)).1
      exact ⟨mkMsg_ok hn hp, by omega, h4 (by omega)⟩

end Go.Proofs.Ytljodhcfimklkab
