import Derived.Test.YtoihlnjcgopdlaaJ3
namespace Go.Proofs.Ytoihlnjcgopdlaa
open Go.RowKit

/-- Instructions that hold wherever they stand. -/
def Plain (l : List Ins) : Prop := ∀ x ∈ l, x.Byt ∧ ∀ left, knownB x left = true
theorem fine_plain {l : List Ins} (h : Plain l) : Fine l := fun _ x hx => ⟨(h x (List.mem_of_getElem? hx)).1, (h x (List.mem_of_getElem? hx)).2 _⟩
theorem fine_append {a b : List Ins} (ha : Fine a) (hb : Fine b) : Fine (a ++ b) := by
  intro i x hx
  rw [List.length_append]
  by_cases h : i < a.length
  · rw [List.getElem?_append_left h] at hx
    obtain ⟨h1, h2⟩ := ha i x hx
    exact ⟨h1, known_mono h2 (by omega)⟩
  · rw [List.getElem?_append_right (by omega)] at hx
    obtain ⟨h1, h2⟩ := hb _ x hx
    exact ⟨h1, known_mono h2 (by omega)⟩
theorem fine_jump {l : List Ins} {mux b : Int} (h : Fine l) (hm0 : 0 ≤ mux) (hm7 : mux ≤ 7) (hb0 : 0 ≤ b) (hb1 : b ≤ 255) (hl1 : 1 ≤ l.length) (hl2 : l.length ≤ 255) : Fine (⟨74, mux, b, 0, l.length⟩ :: l) := by
  intro i x hx
  cases i with
  | zero =>
    simp at hx
    subst hx
    refine ⟨⟨by simp, by simp, hm0, by simp; omega, hb0, hb1, by simp, by simp, by simp, by simp; omega⟩, ?_⟩
    exact known_of ⟨hm7, .inr (by simp only; omega), .inr (.inr (.inr (.inl ⟨rfl, by simp only [List.length_cons]; omega⟩)))⟩
  | succ i =>
    simp at hx
    obtain ⟨h1, h2⟩ := h i x hx
    refine ⟨h1, known_mono h2 ?_⟩
    rw [List.length_cons]; omega

theorem pcs_all {s : Sg} (ok : s.Ok) (ft : s.Fits) : ∀ (f : Nat) (i : Int), 0 ≤ i → ∀ p ∈ pcs s.st s.ln s.od f i, 0 ≤ p.p ∧ p.p ≤ 63 ∧ 1 ≤ p.n ∧ p.p % 8 + p.n ≤ 8 ∧ 0 ≤ p.i ∧ p.i + p.n ≤ 32 := by
  intro f
  induction f with
  | zero => intro i _ p hp; simp [pcs] at hp
  | succ f ih =>
    intro i hi p hp
    rw [pcs] at hp
    split at hp
    · rename_i hlt
      have hb := pcLen_bounds (st := s.st) (od := s.od) hlt
      have h1 := place_lo s.st s.ln s.od i ok.st0 hi hlt
      have h2 := ft i hi hlt
      have h3 := ok.ln1
      rcases List.mem_cons.1 hp with rfl | hp
      · exact ⟨h1, h2, hb.1, hb.2.2, hi, by simp only; omega⟩
      · exact ih _ (by omega) p hp
    · simp at hp

theorem place_wrap {st ln od i : Int} (h : place st ln od i % 8 = 7) : place st ln od (i + 1) % 8 = 0 := by
  unfold place at h ⊢
  split
  · rename_i e; rw [if_pos e] at h; omega
  · rename_i e
    rw [if_neg e] at h
    unfold mir at h ⊢; omega

theorem pcs_len {st ln od : Int} : ∀ (f : Nat) (i : Int), ((pcs st ln od f i).length : Int) ≤ if i < ln then (ln - i + place st ln od i % 8 + 7) / 8 else 0 := by
  intro f
  induction f with
  | zero => intro i; simp only [pcs, List.length_nil]; split <;> omega
  | succ f ih =>
    intro i
    rw [pcs]
    split
    · rename_i hlt
      have hb := pcLen_bounds (st := st) (od := od) hlt
      rw [List.length_cons]
      have h1 := ih (i + pcLen st ln od i)
      split at h1
      · rename_i h2
        have e : pcLen st ln od i = 8 - place st ln od i % 8 := by unfold pcLen at h2 ⊢; split at h2 <;> omega
        have h3 := pcLen_run (st := st) (od := od) hlt (pcLen st ln od i - 1).toNat (by omega)
        have h4 : place st ln od (i + pcLen st ln od i - 1) % 8 = 7 := by
          rw [show i + pcLen st ln od i - 1 = i + ((pcLen st ln od i - 1).toNat : Int) by omega, h3]; omega
        have h5 := place_wrap h4
        rw [show i + pcLen st ln od i - 1 + 1 = i + pcLen st ln od i by omega] at h5
        omega
      · omega
    · simp

theorem pcs_five {s : Sg} (ok : s.Ok) : (pcs s.st s.ln s.od s.ln.toNat 0).length ≤ 5 ∧ 1 ≤ (pcs s.st s.ln s.od s.ln.toNat 0).length := by
  have h := pcs_len (st := s.st) (ln := s.ln) (od := s.od) s.ln.toNat 0
  have h0 := ok.ln0
  have h1 := ok.ln1
  rw [if_pos (by omega)] at h
  refine ⟨by omega, ?_⟩
  obtain ⟨n, hn⟩ : ∃ n, s.ln.toNat = n + 1 := ⟨s.ln.toNat - 1, by omega⟩
  rw [hn, pcs, if_pos (by omega)]; simp

theorem plain_moves {s : Sg} (ok : s.Ok) (ft : s.Fits) {op r : Int} (ho : op = 71 ∨ op = 80) (hr0 : 0 ≤ r) (hr7 : r ≤ 7) : Plain (movesL op r s.st s.ln s.od) := by
  intro x hx
  simp only [movesL, List.mem_map] at hx
  obtain ⟨p, hp, rfl⟩ := hx
  obtain ⟨h1, h2, h3, h4, h5, h6⟩ := pcs_all ok ft _ 0 (by omega) p hp
  refine ⟨⟨by simp only [Pc.ins]; omega, by simp only [Pc.ins]; omega, hr0, by simp only [Pc.ins]; omega, h1, by simp only [Pc.ins]; omega, h5, by simp only [Pc.ins]; omega, by simp only [Pc.ins]; omega, by simp only [Pc.ins]; omega⟩, fun left => ?_⟩
  exact known_of ⟨hr7, .inr h3, .inl ⟨ho, h2, h4, h6⟩⟩

theorem plain_pSteps {s : Sg} (ok : s.Ok) (ft : s.Fits) {r : Int} (hr0 : 0 ≤ r) (hr7 : r ≤ 7) : Plain (pSteps s r) := by
  intro x hx
  have h0 := ok.ln0
  have h1 := ok.ln1
  rcases List.mem_cons.1 hx with rfl | hx
  · have hk : sgnK s.kd = 0 ∨ sgnK s.kd = 1 := by unfold sgnK; split <;> omega
    refine ⟨⟨by simp, by simp, hr0, by simp only; omega, by simp, by simp, by simp only; omega, by simp only; omega, by simp only; omega, by simp only; omega⟩, fun left => ?_⟩
    exact known_of ⟨hr7, .inr h0, .inr (.inr (.inl ⟨rfl, h1, by simp only; omega⟩))⟩
  · exact plain_moves ok ft (.inr rfl) hr0 hr7 x hx

theorem plain_uSteps {s : Sg} (ok : s.Ok) (ft : s.Fits) {r : Int} (hr0 : 0 ≤ r) (hr7 : r ≤ 7) : Plain (uSteps s r) := by
  intro x hx
  have h0 := ok.ln0
  have h1 := ok.ln1
  simp only [uSteps, List.mem_append, List.mem_singleton] at hx
  rcases hx with (hx | hx) | rfl
  · exact plain_moves ok ft (.inl rfl) hr0 hr7 x hx
  · unfold xStep at hx
    split at hx
    · simp at hx
      subst hx
      refine ⟨⟨by simp, by simp, hr0, by simp only; omega, by simp, by simp, by simp, by simp, by simp only; omega, by simp only; omega⟩, fun left => ?_⟩
      exact known_of ⟨hr7, .inr h0, .inr (.inl ⟨rfl, h1⟩)⟩
    · simp at hx
  · refine ⟨⟨by simp, by simp, hr0, by simp only; omega, by simp, by simp, by simp, by simp, by simp, by simp⟩, fun left => ?_⟩
    exact known_of ⟨hr7, .inl rfl, .inr (.inr (.inr (.inr rfl)))⟩

theorem pSteps_len {s : Sg} (ok : s.Ok) (r : Int) : (pSteps s r).length ≤ 6 ∧ 1 ≤ (pSteps s r).length := by
  have := pcs_five ok
  simp only [pSteps, movesL, List.length_cons, List.length_map]; omega
theorem uSteps_len {s : Sg} (ok : s.Ok) (r : Int) : (uSteps s r).length ≤ 7 ∧ 1 ≤ (uSteps s r).length := by
  have := pcs_five ok
  have hx : (xStep s r).length ≤ 1 := by unfold xStep; split <;> simp
  simp only [uSteps, movesL, List.length_append, List.length_map, List.length_cons, List.length_nil]; omega

theorem mux_hi (L : List Sg) (hl : L.length ≤ 8) : muxOf L ≤ 7 := by
  rcases mux_range L with h | ⟨x, hx, h, _⟩ <;> omega
theorem fine_ifAct {L : List Sg} {sz : Int} (hs : Sound L sz) (hg : Good L) {k : Nat} (hk : k < L.length) {l : List Ins} (hl : Fine l) (h1 : 1 ≤ l.length) (h2 : l.length ≤ 255) : Fine (ifAct (sgAt L k) (muxOf L) l) := by
  unfold ifAct
  split
  · rename_i hd
    have hm := sound_mux hs hk hd
    simp [isDigB] at hd
    exact fine_jump hl hm (mux_hi L hg.1) (by omega) (by omega) h1 h2
  · exact hl
theorem ifAct_len (s : Sg) (mux : Int) (l : List Ins) : (ifAct s mux l).length ≤ l.length + 1 := by unfold ifAct; split <;> simp

theorem pack_fine {L : List Sg} {sz : Int} (hs : Sound L sz) (hg : Good L) (hf : AllFits L) : ∀ k, k ≤ L.length → Fine (packTo L k) ∧ (packTo L k).length ≤ 7 * k := by
  intro k
  induction k with
  | zero => intro _; exact ⟨fun i x hx => by simp [packTo] at hx, by simp [packTo]⟩
  | succ k ih =>
    intro hk
    obtain ⟨h1, h2⟩ := ih (by omega)
    have hl := hg.1
    have ok := (hg.2 k (by omega)).1
    have h3 := pSteps_len ok (k : Int)
    have h4 := ifAct_len (sgAt L k) (muxOf L) (pSteps (sgAt L k) k)
    rw [packTo, List.length_append, sigP]
    exact ⟨fine_append h1 (fine_ifAct hs hg (by omega) (fine_plain (plain_pSteps ok (hf k (by omega)) (by omega) (by omega))) (by omega) (by omega)), by omega⟩
theorem unpack_fine {L : List Sg} {sz : Int} (hs : Sound L sz) (hg : Good L) (hf : AllFits L) : ∀ k, k ≤ L.length → Fine (unpackTo L k) ∧ (unpackTo L k).length ≤ 8 * k + 7 := by
  intro k
  induction k with
  | zero =>
    intro _
    rw [unpackTo, headU]
    rcases mux_range L with hmx | ⟨x, hx, hmx, _⟩
    · rw [if_neg (by omega)]; exact ⟨fun i x hx => by simp at hx, by simp⟩
    · have hl := hg.1
      have ok := (hg.2 x hx).1
      have h3 := uSteps_len ok (x : Int)
      rw [if_pos (by omega), hmx, Int.toNat_natCast]
      exact ⟨fine_plain (plain_uSteps ok (hf x hx) (by omega) (by omega)), by omega⟩
  | succ k ih =>
    intro hk
    obtain ⟨h1, h2⟩ := ih (by omega)
    rw [unpackTo, List.length_append, sigU]
    split
    · rw [List.append_nil]; exact ⟨h1, by simp; omega⟩
    · have hl := hg.1
      have ok := (hg.2 k (by omega)).1
      have h3 := uSteps_len ok (k : Int)
      have h4 := ifAct_len (sgAt L k) (muxOf L) (uSteps (sgAt L k) k)
      exact ⟨fine_append h1 (fine_ifAct hs hg (by omega) (fine_plain (plain_uSteps ok (hf k (by omega)) (by omega) (by omega))) (by omega) (by omega)), by omega⟩

/-- How many moves a code has. -/
def isMove (x : Ins) : Bool := decide (x.op = 80) || decide (x.op = 71)
def shifts (l : List Ins) : Nat := l.countP isMove
theorem shifts_app (a b : List Ins) : shifts (a ++ b) = shifts a + shifts b := List.countP_append
theorem shifts_moves {op r st ln od : Int} (ho : op = 71 ∨ op = 80) : shifts (movesL op r st ln od) = (pcs st ln od ln.toNat 0).length := by
  rw [shifts, movesL, List.countP_map, List.countP_eq_length]
  intro x _
  simp only [Function.comp, Pc.ins, isMove]
  rcases ho with rfl | rfl <;> rfl
theorem shifts_ifAct (s : Sg) (mux : Int) (l : List Ins) : shifts (ifAct s mux l) = shifts l := by
  unfold ifAct; split
  · simp [shifts, isMove]
  · rfl
theorem shifts_p (s : Sg) (r : Int) : shifts (pSteps s r) = (pcs s.st s.ln s.od s.ln.toNat 0).length := by
  rw [pSteps, ← shifts_moves (op := 80) (r := r) (.inr rfl)]
  simp [shifts, isMove]
theorem shifts_u (s : Sg) (r : Int) : shifts (uSteps s r) = (pcs s.st s.ln s.od s.ln.toNat 0).length := by
  rw [uSteps, shifts_app, shifts_app, shifts_moves (.inl rfl)]
  have : shifts (xStep s r) = 0 := by unfold xStep; split <;> simp [shifts, isMove]
  rw [this]; simp [shifts, isMove]

/-- How many b below n there are with P. -/
def cntB (P : Nat → Bool) : Nat → Nat
  | 0 => 0
  | n + 1 => cntB P n + if P n then 1 else 0
theorem cntB_le {P Q : Nat → Bool} (h : ∀ b, Q b = true → P b = true) (n : Nat) : cntB Q n ≤ cntB P n := by
  induction n with
  | zero => simp [cntB]
  | succ n ih =>
    rw [cntB, cntB]
    have := h n
    cases hq : Q n with
    | false => simp; omega
    | true => rw [this hq]; simp; omega
theorem cntB_more {P Q : Nat → Bool} (h : ∀ b, Q b = true → P b = true) {B : Nat} (hP : P B = true) (hQ : Q B = false) (n : Nat) (hB : B < n) : cntB Q n + 1 ≤ cntB P n := by
  induction n with
  | zero => omega
  | succ n ih =>
    rw [cntB, cntB]
    by_cases e : B = n
    · subst e
      have := cntB_le h B
      rw [hP, hQ]; simp; omega
    · have h1 := ih (by omega)
      have := h n
      cases hq : Q n with
      | false => simp; omega
      | true => rw [this hq]; simp; omega

/-- Lies a bit of the signal, from i on, in byte b? -/
def hitF (st ln od : Int) (i : Int) (b : Nat) : Bool := anyIx (fun k => decide (i ≤ (k : Int)) && decide (place st ln od k / 8 = b)) ln.toNat
theorem byte_apart {st ln od i k : Int} (hod : od = 60 ∨ od = 62) (hk : i + pcLen st ln od i ≤ k) (hkl : k < ln) : place st ln od k / 8 ≠ place st ln od i / 8 := by
  have hb : pcLen st ln od i = 8 - place st ln od i % 8 := by
    unfold pcLen at hk ⊢
    split
    · rename_i h; rw [if_pos h] at hk; omega
    · rfl
  rw [hb] at hk
  rcases hod with rfl | rfl
  · simp only [place, if_true] at hk ⊢; omega
  · simp only [place] at hk ⊢
    rw [if_neg (by omega)] at hk
    rw [if_neg (by omega), if_neg (by omega)]
    generalize mir st = y at *
    unfold mir at *
    omega
theorem pcs_hits {s : Sg} (ok : s.Ok) {n : Nat} (hw : ∀ k : Nat, (k : Int) < s.ln → place s.st s.ln s.od k < 8 * n) : ∀ (f : Nat) (i : Int), 0 ≤ i → (pcs s.st s.ln s.od f i).length ≤ cntB (hitF s.st s.ln s.od i) n := by
  intro f
  induction f with
  | zero => intro i _; simp [pcs]
  | succ f ih =>
    intro i hi
    rw [pcs]
    split
    · rename_i hlt
      have hb := pcLen_bounds (st := s.st) (od := s.od) hlt
      have h1 := place_lo s.st s.ln s.od i ok.st0 hi hlt
      have h2 := hw i.toNat (by omega)
      rw [show ((i.toNat : Nat) : Int) = i by omega] at h2
      rw [List.length_cons]
      refine Nat.le_trans (Nat.succ_le_succ (ih (i + pcLen s.st s.ln s.od i) (by omega))) (cntB_more (B := (place s.st s.ln s.od i / 8).toNat) ?_ ?_ ?_ n (by omega))
      · intro b h
        rw [hitF, anyIx_true] at h ⊢
        obtain ⟨k, hk, h⟩ := h
        simp only [Bool.and_eq_true, decide_eq_true_eq] at h
        exact ⟨k, hk, by simp only [Bool.and_eq_true, decide_eq_true_eq]; exact ⟨by omega, h.2⟩⟩
      · rw [hitF, anyIx_true]
        refine ⟨i.toNat, by omega, ?_⟩
        simp only [Bool.and_eq_true, decide_eq_true_eq]
        rw [show ((i.toNat : Nat) : Int) = i by omega]
        exact ⟨by omega, by omega⟩
      · cases hq : hitF s.st s.ln s.od (i + pcLen s.st s.ln s.od i) (place s.st s.ln s.od i / 8).toNat with
        | false => rfl
        | true =>
          exfalso
          rw [hitF, anyIx_true] at hq
          obtain ⟨k, hk, h⟩ := hq
          simp only [Bool.and_eq_true, decide_eq_true_eq] at h
          exact byte_apart ok.od h.1 (by omega) (by omega)
    · simp

/-- Lies a bit of the signal in byte b? -/
def hitB (s : Sg) (b : Nat) : Bool := anyIx (fun k => decide (place s.st s.ln s.od k / 8 = b)) s.ln.toNat
/-- P11: how many pairs there are. -/
def pairsTo (L : List Sg) (n : Nat) : Nat → Nat
  | 0 => 0
  | k + 1 => pairsTo L n k + cntB (hitB (sgAt L k)) n
theorem pcs_pairs {L : List Sg} {sz : Int} (hg : Good L) (hw : Within L sz) (h0 : 0 ≤ sz) {k : Nat} (hk : k < L.length) : (pcs (sgAt L k).st (sgAt L k).ln (sgAt L k).od (sgAt L k).ln.toNat 0).length ≤ cntB (hitB (sgAt L k)) sz.toNat := by
  refine Nat.le_trans (pcs_hits (hg.2 k hk).1 (n := sz.toNat) (fun j hj => by have := hw k hk j hj; omega) _ 0 (by omega)) (cntB_le ?_ _)
  intro b h
  rw [hitF, anyIx_true] at h
  obtain ⟨j, hj, h⟩ := h
  simp only [Bool.and_eq_true] at h
  rw [hitB, anyIx_true]
  exact ⟨j, hj, h.2⟩
theorem pack_shifts {L : List Sg} {sz : Int} (hg : Good L) (hw : Within L sz) (h0 : 0 ≤ sz) : ∀ k, k ≤ L.length → shifts (packTo L k) ≤ pairsTo L sz.toNat k := by
  intro k
  induction k with
  | zero => intro _; simp [packTo, shifts]
  | succ k ih =>
    intro hk
    have h1 := ih (by omega)
    have h2 := pcs_pairs hg hw h0 (show k < L.length by omega)
    rw [packTo, shifts_app, sigP, shifts_ifAct, shifts_p, pairsTo]
    omega
/-- The moves of the multiplexor, if it stands behind k. -/
def muxShare (L : List Sg) (k : Nat) : Nat := if (k : Int) ≤ muxOf L then (pcs (sgAt L (muxOf L).toNat).st (sgAt L (muxOf L).toNat).ln (sgAt L (muxOf L).toNat).od (sgAt L (muxOf L).toNat).ln.toNat 0).length else 0
theorem unpack_shifts {L : List Sg} {sz : Int} (hg : Good L) (hw : Within L sz) (h0 : 0 ≤ sz) : ∀ k, k ≤ L.length → shifts (unpackTo L k) ≤ pairsTo L sz.toNat k + muxShare L k := by
  intro k
  induction k with
  | zero =>
    intro _
    rw [unpackTo, headU, pairsTo, muxShare]
    simp only [Int.natCast_zero]
    split
    · rw [shifts_u]; omega
    · simp [shifts]
  | succ k ih =>
    intro hk
    have h1 := ih (by omega)
    have h2 := pcs_pairs hg hw h0 (show k < L.length by omega)
    rw [unpackTo, shifts_app, sigU, pairsTo]
    by_cases e : (k : Int) = muxOf L
    · rw [if_pos e]
      have h3 : muxShare L k = (pcs (sgAt L k).st (sgAt L k).ln (sgAt L k).od (sgAt L k).ln.toNat 0).length := by
        rw [muxShare, if_pos (by omega), ← e, Int.toNat_natCast]
      have h4 : shifts ([] : List Ins) = 0 := rfl
      rw [h4]; omega
    · rw [if_neg e, shifts_ifAct, shifts_u]
      have h3 : muxShare L (k + 1) = muxShare L k := by
        unfold muxShare
        by_cases h : (k : Int) ≤ muxOf L
        · rw [if_pos h, if_pos (by omega)]
        · rw [if_neg h, if_neg (by omega)]
      omega
theorem unpack_few {L : List Sg} {sz : Int} (hg : Good L) (hw : Within L sz) (h0 : 0 ≤ sz) : shifts (unpackTo L L.length) ≤ pairsTo L sz.toNat L.length := by
  have h := unpack_shifts hg hw h0 L.length (Nat.le_refl _)
  have : muxShare L L.length = 0 := by
    unfold muxShare
    rcases mux_range L with hmx | ⟨x, hx, hmx, _⟩
    · rw [if_neg (by omega)]
    · rw [if_neg (by omega)]
  omega

end Go.Proofs.Ytoihlnjcgopdlaa

namespace Go.Proofs.Ytoihlnjcgopdlaa
open Go.RowKit

theorem nums_app (a b : List Int) : strOfNums (a ++ b) = strOfNums a ++ strOfNums b := by
  apply ByteArray.ext
  simp [strOfNums, ByteArray.data_append]
theorem codeB_app (a b : List Ins) : codeB (a ++ b) = codeB a ++ codeB b := by rw [codeB, List.flatMap_append, nums_app]; rfl
theorem codeB_nil : codeB [] = { data := #[] } := rfl
theorem codeB_len (l : List Ins) : (l.flatMap Ins.bytes).length = 5 * l.length := by
  induction l with
  | nil => rfl
  | cons x l ih => rw [List.flatMap_cons, List.length_append, ih, List.length_cons]; simp [Ins.bytes]; omega
theorem codeB_size (l : List Ins) : (codeB l).size = 5 * l.length := by rw [codeB, strOfNums_size, codeB_len]

theorem nums_bt (xs : List Int) (k : Nat) (x : Int) (h : xs[k]? = some x) (h0 : 0 ≤ x) (h1 : x ≤ 255) : bt (strOfNums xs) k = x := by
  have hk : k < xs.length := by
    rcases Nat.lt_or_ge k xs.length with h' | h'
    · exact h'
    · rw [List.getElem?_eq_none h'] at h; cases h
  have hk2 : k < (strOfNums xs).size := by rw [strOfNums_size]; exact hk
  rw [← bt_of hk2]
  have hx : xs[k] = x := by rw [List.getElem?_eq_getElem hk] at h; exact Option.some.inj h
  have : (strOfNums xs)[k] = UInt8.ofNat x.toNat := by simp [strOfNums, ByteArray.getElem_eq_getElem_data, hx]
  rw [this, UInt8.toNat_ofNat', Nat.mod_eq_of_lt (by omega)]
  omega
theorem bytes_get (l : List Ins) (i j : Nat) (x : Ins) (hi : l[i]? = some x) (hj : j < 5) : (l.flatMap Ins.bytes)[5 * i + j]? = x.bytes[j]? := by
  induction l generalizing i with
  | nil => simp at hi
  | cons a l ih =>
    rw [List.flatMap_cons]
    cases i with
    | zero =>
      simp at hi
      subst hi
      rw [List.getElem?_append_left (by simp [Ins.bytes]; omega)]; simp
    | succ i =>
      simp at hi
      rw [List.getElem?_append_right (by simp [Ins.bytes]; omega)]
      have : 5 * (i + 1) + j - a.bytes.length = 5 * i + j := by simp [Ins.bytes]; omega
      rw [this, ih i hi]
theorem insAt_code {l : List Ins} {i : Nat} {x : Ins} (h : l[i]? = some x) (hb : x.Byt) : insAt (codeB l) i = x := by
  have h0 := nums_bt (l.flatMap Ins.bytes) (5 * i) x.op (by have := bytes_get l i 0 x h (by omega); simpa [Ins.bytes] using this) hb.op0 hb.op1
  have h1 := nums_bt (l.flatMap Ins.bytes) (5 * i + 1) x.r (by have := bytes_get l i 1 x h (by omega); simpa [Ins.bytes] using this) hb.r0 hb.r1
  have h2 := nums_bt (l.flatMap Ins.bytes) (5 * i + 2) x.b (by have := bytes_get l i 2 x h (by omega); simpa [Ins.bytes] using this) hb.b0 hb.b1
  have h3 := nums_bt (l.flatMap Ins.bytes) (5 * i + 3) x.k (by have := bytes_get l i 3 x h (by omega); simpa [Ins.bytes] using this) hb.k0 hb.k1
  have h4 := nums_bt (l.flatMap Ins.bytes) (5 * i + 4) x.n (by have := bytes_get l i 4 x h (by omega); simpa [Ins.bytes] using this) hb.n0 hb.n1
  rw [insAt, codeB, h0, h1, h2, h3, h4]

set_option maxHeartbeats 1000000 in
theorem instructionText_any (op r b k n : Int) (w : World) (hb : (⟨op, r, b, k, n⟩ : Ins).Byt) :
    Calls Try.prog 97 #[.agg #[.int .u8 op, .int .i64 r, .int .i64 b, .int .i64 k, .int .i64 n]] w fun e w' => e = .returned (.string (codeB [⟨op, r, b, k, n⟩])) ∧ Below w.heap.size w w' := by
  obtain ⟨o0, o1, r0, r1, b0, b1, k0, k1, n0, n1⟩ := hb
  simp only at o0 o1 r0 r1 b0 b1 k0 k1 n0 n1
  have wr : IntKind.u8.wrap r = r := by rw [IntKind.wrap_u8]; omega
  have wb : IntKind.u8.wrap b = b := by rw [IntKind.wrap_u8]; omega
  have wk : IntKind.u8.wrap k = k := by rw [IntKind.wrap_u8]; omega
  have wn : IntKind.u8.wrap n = n := by rw [IntKind.wrap_u8]; omega
  have hconv := conv_row (w := (w.alloc (.cells #[.int .u8 op, .int .i64 r, .int .i64 b, .int .i64 k, .int .i64 n] 128)).alloc (.cells #[.int .u8 op, .int .u8 r, .int .u8 b, .int .u8 k, .int .u8 n] 5)) (B := 0) (v := .slice (some ⟨w.heap.size + 1, 0, none⟩) 5 5) (n := 5) (xs := [op, r, b, k, n])
    ⟨rfl, .inr ⟨_, 5, _, rfl, Nat.zero_le _, new_two _ _ _, Nat.le_refl _, by simp [maxLen], rfl, rfl⟩⟩
  go_enter Try.func97, Try.ntmps97
  go_wp2
  go_ret
  exact ⟨rfl, ((Below.refl _ _).alloc (Nat.le_refl _) _).alloc (by simp) _⟩

/-- The cells of a piece; what the slice value v reads as. -/
def Pc.cells (p : Pc) : List Value := [.int .i64 p.p, .int .i64 p.i, .int .i64 p.n]
def PcsAt (w : World) (v : Value) (L : List Pc) : Prop := w.ownsRow 0 156 3 v L.length (L.flatMap Pc.cells)
theorem Try.infoPc : (Try.prog.info? 156).map (fun i => (i.zero, i.size, i.bytes)) = some (some (.agg #[.int .i64 0, .int .i64 0, .int .i64 0]), 3, 24) := by kernel_rfl

set_option maxRecDepth 100000 in
set_option maxHeartbeats 2000000 in
theorem pieces_any (a0 a1 st ln od kd rl : Int) (w : World) (h0 : 0 ≤ st) (h1 : st ≤ 63) (h2 : 1 ≤ ln) (h3 : ln ≤ 32) (h4 : od = 60 ∨ od = 62) (hp : ∀ i, 0 ≤ i → i < ln → place st ln od i ≤ 63) :
    Calls Try.prog 107 #[.agg #[.int .i64 a0, .int .u8 a1, .int .i64 st, .int .i64 ln, .int .u8 od, .int .u8 kd, .int .u8 rl]] w
      fun e w' => ∃ v, e = .returned v ∧ PcsAt w' v (pcs st ln od ln.toNat 0) ∧ Below w.heap.size w w' := by
  obtain ⟨i0, hinf, hz0, hz1, hz2⟩ := info_parts Try.infoPc
  have HINF := hide hinf
  have HZ0 := hide hz0
  have HZ1 := hide hz1
  have HZ2 := hide hz2
  have H4 := hide h4
  have HP := hide hp
  clear hinf hz0 hz1 hz2 h4 hp
  go_enter Try.func107, Try.ntmps107
  go_wp2
  go_loopw [3, 4] (fun v i wr => ∃ (k : Nat) (f : Nat) (L : List Pc), (k : Int) ≤ ln ∧ i = .int .i64 k ∧ ln - k ≤ f ∧ L.length ≤ k ∧ L ++ pcs st ln od f k = pcs st ln od ln.toNat 0 ∧ wr.ownsRow (w.heap.size + 1) 156 3 v L.length (L.flatMap Pc.cells) ∧
    Below (w.heap.size + 1) (w.alloc (.cells #[.int .i64 a0, .int .u8 a1, .int .i64 st, .int .i64 ln, .int .u8 od, .int .u8 kd, .int .u8 rl] 121)) wr) (fun _ i _ => (ln - intOf i).toNat)
  case atStart => exact ⟨0, ln.toNat, [], by omega, rfl, by omega, by simp, rfl, ⟨rfl, .inr ⟨_, 0, #[], rfl, by omega, new_two _ _ _, by simp, by simp [maxLen], by simp, by simp⟩⟩, (Below.refl _ _).alloc (by simp) _⟩
  case round =>
    obtain ⟨k, f, L, hk, rfl, hf, hLk, hL, hown, hb⟩ := hrel
    obtain ⟨sa, cap, rfl⟩ := ownsRow_form hown
    have HOWN := hide hown
    have HB := hide hb
    have HL := hide hL
    have hc := box_cell hb
    clear hown hb hL
    by_cases hlt : (k : Int) < ln
    · obtain ⟨f, rfl⟩ : ∃ g, f = g + 1 := ⟨f - 1, by omega⟩
      have hp0 := place_lo st ln od k h0 (by omega) hlt
      have hp1 := unhide HP k (by omega) hlt
      have hpb := pcLen_bounds (st := st) (od := od) hlt
      have HPL := hide (show pcLen st ln od k = if ln - k < 8 - place st ln od k % 8 then ln - k else 8 - place st ln od k % 8 from rfl)
      rw [pcs, if_pos hlt] at HL
      go_wp2_with fail
      refine (bitPlace_any a0 a1 st ln od kd rl k wr h0 h1 h2 h3 (unhide H4) (by omega) hlt).mono ?_
      rintro e w1 ⟨rfl, hb1⟩
      have HB1 := hide (box_next (unhide HB) hb1)
      have HOWN1 := hide (ownsRow_bel (unhide HOWN) hb1)
      have hc1 := box_cell (unhide HB1)
      clear hc hb1
      generalize pcLen st ln od k = m at *
      generalize place st ln od k = q at *
      obtain ⟨mn, rfl⟩ : ∃ mn : Nat, m = mn := ⟨m.toNat, by omega⟩
      have htm : (q : Int).tmod 8 = q % 8 := Int.tmod_eq_emod_of_nonneg hp0
      by_cases hs : ln - k < 8 - q % 8
      · have hm : (mn : Int) = ln - k := by rw [unhide HPL, if_pos hs]
        have HM := hide hm
        clear HPL hm
        go_wp2_with (at_builtin; refine wpList_append_own _ rfl _ _ 153 rfl (w.heap.size + 1) 156 i0 _ 3 24 Try.underlying153 (unhide HINF) (unhide HZ0) (unhide HZ1) (unhide HZ2) rfl (by decide) _ _ _ rfl ((unhide HOWN1).alloc _) ⟨w1.heap.size, 0, none⟩ 1 1 (Pc.cells ⟨q, k, ln - k⟩) rfl rfl ?c1 ?c2 ?c3 ?c4 ?c5 ?_)
        case c1 => exact new_cells (blk_new _ _)
        case c2 => simp [Pc.cells, Value.oneCell']
        case c3 => unfold maxLen; omega
        case c4 => omega
        case c5 => have := (unhide HB1).size; simp at this ⊢; omega
        intro v3 w3 hown3 hgrow _
        obtain ⟨a3, cap3, rfl⟩ := ownsRow_form hown3
        have HB3 := hide (Below.grown ((unhide HB1).alloc (by have := (unhide HB1).size; simp at this; omega) _) hgrow (by have := (unhide HB1).size; simp at this ⊢; omega) (fun k hk => ((unhide HOWN1).lt k hk).1))
        have HOWN3 := hide hown3
        clear hown3 hgrow hc1
        go_wp2
        go_roundw
        case rel =>
          refine ⟨k + mn, f, L ++ [⟨q, k, mn⟩], by omega, by have := unhide HM; go_num, by omega, by simp; omega, ?_, ?_, unhide HB3⟩
          · rw [← unhide HL]; simp
          · have := unhide HOWN3
            rw [← unhide HM] at this
            rw [List.length_append, List.flatMap_append]
            simpa using this
        case measure => have := unhide HM; simp [intOf]; omega
      · have hm : (mn : Int) = 8 - q % 8 := by rw [unhide HPL, if_neg hs]
        have HM := hide hm
        clear HPL hm
        go_wp2_with (at_builtin; refine wpList_append_own _ rfl _ _ 153 rfl (w.heap.size + 1) 156 i0 _ 3 24 Try.underlying153 (unhide HINF) (unhide HZ0) (unhide HZ1) (unhide HZ2) rfl (by decide) _ _ _ rfl ((unhide HOWN1).alloc _) ⟨w1.heap.size, 0, none⟩ 1 1 (Pc.cells ⟨q, k, 8 - q % 8⟩) rfl rfl ?c1 ?c2 ?c3 ?c4 ?c5 ?_)
        case c1 => exact new_cells (blk_new _ _)
        case c2 => simp [Pc.cells, Value.oneCell']
        case c3 => unfold maxLen; omega
        case c4 => omega
        case c5 => have := (unhide HB1).size; simp at this ⊢; omega
        intro v3 w3 hown3 hgrow _
        obtain ⟨a3, cap3, rfl⟩ := ownsRow_form hown3
        have HB3 := hide (Below.grown ((unhide HB1).alloc (by have := (unhide HB1).size; simp at this; omega) _) hgrow (by have := (unhide HB1).size; simp at this ⊢; omega) (fun k hk => ((unhide HOWN1).lt k hk).1))
        have HOWN3 := hide hown3
        clear hown3 hgrow hc1
        go_wp2
        go_roundw
        case rel =>
          refine ⟨k + mn, f, L ++ [⟨q, k, mn⟩], by omega, by have := unhide HM; go_num, by omega, by simp; omega, ?_, ?_, unhide HB3⟩
          · rw [← unhide HL]; simp
          · have := unhide HOWN3
            rw [← unhide HM] at this
            rw [List.length_append, List.flatMap_append]
            simpa using this
        case measure => have := unhide HM; simp [intOf]; omega
    · have hend := pcs_end (st := st) (ln := ln) (od := od) f hlt
      have HE := hide (show L = pcs st ln od ln.toNat 0 by rw [← unhide HL, hend, List.append_nil])
      clear hend
      go_wp2
      go_ret
      refine ⟨_, rfl, ?_, box_below (unhide HB)⟩
      rw [PcsAt, ← unhide HE]
      exact ownsRow_base (unhide HOWN)

end Go.Proofs.Ytoihlnjcgopdlaa

namespace Go.Proofs.Ytoihlnjcgopdlaa
open Go.RowKit

def pcAt (L : List Pc) (k : Nat) : Pc := L.getD k ⟨0, 0, 0⟩
theorem pcAt_eq (L : List Pc) (k : Nat) (h : k < L.length) : pcAt L k = L[k] := by simp [pcAt, h]
theorem PcsAt.opened {w : World} {v : Value} {L : List Pc} (h : PcsAt w v L) :
    (L = [] ∧ (∃ a c, v = .slice a 0 c)) ∨ ∃ g cap, v = .slice (some ⟨g, 0, none⟩) L.length cap ∧ g < w.heap.size ∧ L.length ≤ cap ∧ cap ≤ maxLen ∧
      ∀ k j, k < L.length → j < 3 → w.cell? ⟨g, k * 3 + j, none⟩ = (pcAt L k).cells[j]? := by
  have h' := h
  obtain ⟨hl, h2⟩ := h
  rcases h2 with ⟨rfl, hn⟩ | ⟨g, cap, cur, rfl, _, hg, hnc, hcm, hcs, ht⟩
  · exact .inl ⟨List.eq_nil_of_length_eq_zero hn, _, _, rfl⟩
  · refine .inr ⟨g, cap, rfl, (Array.getElem?_eq_some_iff.1 hg).1, hnc, hcm, fun k j hk hj => ?_⟩
    obtain ⟨g', cap', e1, e2, _⟩ := row_cell h' (k * 3 + j) (by omega)
    cases e1
    rw [e2, flat_get Pc.cells 3 (fun _ => rfl) L k j hk hj, pcAt_eq L k hk]
theorem cells3 {w wx : World} {g : Nat} {L : List Pc} (hc : ∀ k j, k < L.length → j < 3 → w.cell? ⟨g, k * 3 + j, none⟩ = (pcAt L k).cells[j]?) (hg : g < w.heap.size) (hb : Below w.heap.size w wx) {k : Nat} (hk : k < L.length) :
    wx.cell? ⟨g, k * 3, none⟩ = some (.int .i64 (pcAt L k).p) ∧ wx.cell? ⟨g, k * 3 + 1, none⟩ = some (.int .i64 (pcAt L k).i) ∧ wx.cell? ⟨g, k * 3 + 2, none⟩ = some (.int .i64 (pcAt L k).n) := by
  refine ⟨?_, ?_, ?_⟩
  · rw [hb.cell (p := ⟨g, k * 3, none⟩) hg]; exact hc k 0 hk (by omega)
  · rw [hb.cell (p := ⟨g, k * 3 + 1, none⟩) hg]; exact hc k 1 hk (by omega)
  · rw [hb.cell (p := ⟨g, k * 3 + 2, none⟩) hg]; exact hc k 2 hk (by omega)

/-- The code of the first k pieces. -/
def mvTo (op r : Int) (L : List Pc) (k : Nat) : List Ins := (L.take k).map (Pc.ins op r)
theorem mvTo_succ (op r : Int) (L : List Pc) (k : Nat) (h : k < L.length) : mvTo op r L (k + 1) = mvTo op r L k ++ [(pcAt L k).ins op r] := by
  rw [mvTo, List.take_succ_eq_append_getElem h, List.map_append, pcAt_eq L k h]; rfl

set_option maxRecDepth 100000 in
set_option maxHeartbeats 2000000 in
theorem moves_any (op : Int) (s : Sg) (r : Nat) (w : World) (ok : s.Ok) (ft : s.Fits) (ho : op = 71 ∨ op = 80) (hr : r ≤ 7) :
    Calls Try.prog 98 #[.int .u8 op, .agg #[.int .i64 s.pl, .int .u8 s.nm, .int .i64 s.st, .int .i64 s.ln, .int .u8 s.od, .int .u8 s.kd, .int .u8 s.rl], .int .i64 r] w
      fun e w' => e = .returned (.string (codeB (movesL op r s.st s.ln s.od))) ∧ Below w.heap.size w w' := by
  have HPL := hide (plain_moves ok ft ho (show (0 : Int) ≤ r by omega) (by omega))
  obtain ⟨L, HL⟩ : ∃ L, Hid (L = pcs s.st s.ln s.od s.ln.toNat 0) := ⟨_, hide rfl⟩
  have hl5 := (pcs_five ok).1
  have HMV := hide (show movesL op r s.st s.ln s.od = mvTo op r L L.length by rw [movesL, mvTo, List.take_length, unhide HL])
  rw [← unhide HL] at hl5
  have OK := hide ok
  have FT := hide ft
  have HO := hide ho
  clear ok ft ho
  go_enter Try.func98, Try.ntmps98
  go_wp2_with fail
  refine (pieces_any s.pl s.nm s.st s.ln s.od s.kd s.rl _ (unhide OK).st0 (unhide OK).st1 (unhide OK).ln0 (unhide OK).ln1 (unhide OK).od (unhide FT)).mono ?_
  rintro e w1 ⟨v, rfl, hpv, hb1⟩
  rw [← unhide HL] at hpv
  have HB1 := hide (((Below.refl _ _).alloc (Nat.le_refl _) _).trans (hb1.mono (by simp)))
  clear hb1
  rcases hpv.opened with ⟨hnil, a, cc, rfl⟩ | ⟨g, cap, rfl, hg, hcap, hcm, hc⟩
  · have HE := hide (show movesL op r s.st s.ln s.od = [] by rw [unhide HMV, hnil]; rfl)
    clear hnil hpv
    go_wp2
    refine wp_loop_rounds 1 ?_
    rw [rounds_succ]
    go_wp2
    go_ret
    exact ⟨by rw [unhide HE]; rfl, unhide HB1⟩
  have HC := hide hc
  clear hc hpv
  go_wp2
  go_loopw [7, 9] (fun c i wr => ∃ k : Nat, k ≤ L.length ∧ i = .int .i64 k ∧ c = .string (codeB (mvTo op r L k)) ∧ Below w1.heap.size w1 wr) (fun _ i _ => L.length - (intOf i).toNat)
  case atStart => exact ⟨0, by omega, rfl, rfl, Below.refl _ _⟩
  case round =>
    obtain ⟨k, hk, rfl, rfl, hb⟩ := hrel
    have HB := hide hb
    clear hb
    by_cases hlt : k < L.length
    · have hc3 := cells3 (unhide HC) hg (unhide HB) hlt
      have hsz := codeB_size (mvTo op r L k)
      have hsl : (mvTo op r L k).length ≤ 5 := by simp [mvTo]; omega
      have HSU := hide (mvTo_succ op r L k hlt)
      have HBY := hide (show ((pcAt L k).ins op r).Byt from (unhide HPL _ (by
        rw [unhide HMV, mvTo, List.take_length, List.mem_map]
        exact ⟨pcAt L k, by rw [pcAt_eq L k hlt]; exact List.getElem_mem hlt, rfl⟩)).1)
      have hi0 : (0 : Int) ≤ (k : Int) := by omega
      have hi1 : (k : Int) < (L.length : Int) := by omega
      generalize pcAt L k = pc at *
      obtain ⟨c0, c1, c2⟩ := hc3
      go_wp2_with fail
      refine (instructionText_any op r pc.p pc.i pc.n _ (unhide HBY)).mono ?_
      rintro e w2 ⟨rfl, hb2⟩
      have HB2 := hide ((unhide HB).trans ((box_below (hb2.mono (by simp))).mono (unhide HB).size))
      have hsz2 := codeB_size [(⟨op, r, pc.p, pc.i, pc.n⟩ : Ins)]
      clear hb2 c0 c1 c2
      go_wp2
      go_roundw
      case rel => exact ⟨k + 1, by omega, by go_num, by rw [unhide HSU, codeB_app]; rfl, unhide HB2⟩
      case measure => simp [intOf]; omega
    · have hkn : k = L.length := by omega
      have HK := hide hkn
      clear hkn
      go_wp2
      go_ret
      exact ⟨by rw [unhide HMV, ← unhide HK]; rfl, (unhide HB1).trans ((unhide HB).mono (unhide HB1).size)⟩

end Go.Proofs.Ytoihlnjcgopdlaa

namespace Go.Proofs.Ytoihlnjcgopdlaa
open Go.RowKit

theorem codeB_cons (x : Ins) (l : List Ins) : codeB (x :: l) = codeB [x] ++ codeB l := codeB_app [x] l
theorem moves_len {s : Sg} (ok : s.Ok) (op r : Int) : (movesL op r s.st s.ln s.od).length ≤ 5 := by
  have := (pcs_five ok).1
  simpa [movesL] using this

set_option maxRecDepth 100000 in
set_option maxHeartbeats 2000000 in
theorem packSteps_any (s : Sg) (r : Nat) (w : World) (ok : s.Ok) (ft : s.Fits) (hr : r ≤ 7) :
    Calls Try.prog 86 #[.agg #[.int .i64 s.pl, .int .u8 s.nm, .int .i64 s.st, .int .i64 s.ln, .int .u8 s.od, .int .u8 s.kd, .int .u8 s.rl], .int .i64 r] w
      fun e w' => e = .returned (.string (codeB (pSteps s r))) ∧ Below w.heap.size w w' := by
  have HR := hide (show codeB (pSteps s r) = codeB [⟨82, r, 0, sgnK s.kd, s.ln⟩] ++ codeB (movesL 80 r s.st s.ln s.od) from codeB_cons _ _)
  have HBY := hide ((plain_pSteps ok ft (show (0 : Int) ≤ r by omega) (by omega)) _ (List.mem_cons_self)).1
  have hs1 := codeB_size [(⟨82, r, 0, sgnK s.kd, s.ln⟩ : Ins)]
  have hs2 := codeB_size (movesL 80 r s.st s.ln s.od)
  have hm5 := moves_len ok 80 (r : Int)
  have OK := hide ok
  have FT := hide ft
  rcases ok.kd with hk | hk
  · have hk2 : (s.kd == 115) = false := by rw [hk]; rfl
    rw [show sgnK s.kd = 0 by rw [hk]; rfl] at *
    clear hk ok ft
    go_enter Try.func86, Try.ntmps86
    go_wp2_with fail
    refine (instructionText_any 82 r 0 0 s.ln _ (unhide HBY)).mono ?_
    rintro e w1 ⟨rfl, hb1⟩
    have HB1 : Hid (Below (w.heap.size + 1) (w.alloc (.cells #[.int .i64 s.pl, .int .u8 s.nm, .int .i64 s.st, .int .i64 s.ln, .int .u8 s.od, .int .u8 s.kd, .int .u8 s.rl] 121)) w1) := hide (hb1.mono (by simp))
    have hc1 := box_cell (unhide HB1)
    clear hb1
    go_wp2_with fail
    refine (moves_any 80 s r _ (unhide OK) (unhide FT) (.inr rfl) hr).mono ?_
    rintro e w2 ⟨rfl, hb2⟩
    have HB2 := hide (box_next (unhide HB1) hb2)
    clear hb2 hc1
    go_wp2
    go_ret
    exact ⟨by rw [unhide HR]; rfl, box_below (unhide HB2)⟩
  · have hk2 : (s.kd == 115) = true := by rw [hk]; rfl
    rw [show sgnK s.kd = 1 by rw [hk]; rfl] at *
    clear hk ok ft
    go_enter Try.func86, Try.ntmps86
    go_wp2_with fail
    refine (instructionText_any 82 r 0 1 s.ln _ (unhide HBY)).mono ?_
    rintro e w1 ⟨rfl, hb1⟩
    have HB1 : Hid (Below (w.heap.size + 1) (w.alloc (.cells #[.int .i64 s.pl, .int .u8 s.nm, .int .i64 s.st, .int .i64 s.ln, .int .u8 s.od, .int .u8 s.kd, .int .u8 s.rl] 121)) w1) := hide (hb1.mono (by simp))
    have hc1 := box_cell (unhide HB1)
    clear hb1
    go_wp2_with fail
    refine (moves_any 80 s r _ (unhide OK) (unhide FT) (.inr rfl) hr).mono ?_
    rintro e w2 ⟨rfl, hb2⟩
    have HB2 := hide (box_next (unhide HB1) hb2)
    clear hb2 hc1
    go_wp2
    go_ret
    exact ⟨by rw [unhide HR]; rfl, box_below (unhide HB2)⟩

set_option maxRecDepth 100000 in
set_option maxHeartbeats 2000000 in
theorem unpackSteps_any (s : Sg) (r : Nat) (w : World) (ok : s.Ok) (ft : s.Fits) (hr : r ≤ 7) :
    Calls Try.prog 88 #[.agg #[.int .i64 s.pl, .int .u8 s.nm, .int .i64 s.st, .int .i64 s.ln, .int .u8 s.od, .int .u8 s.kd, .int .u8 s.rl], .int .i64 r] w
      fun e w' => e = .returned (.string (codeB (uSteps s r))) ∧ Below w.heap.size w w' := by
  have hpl := plain_uSteps ok ft (show (0 : Int) ≤ r by omega) (by omega)
  have HBA := hide (show (⟨65, r, 0, 0, 0⟩ : Ins).Byt from (hpl _ (by simp [uSteps])).1)
  have hs1 := codeB_size [(⟨65, r, 0, 0, 0⟩ : Ins)]
  have hs2 := codeB_size (movesL 71 r s.st s.ln s.od)
  have hs3 := codeB_size [(⟨88, r, 0, 0, s.ln⟩ : Ins)]
  have hm5 := moves_len ok 71 (r : Int)
  have OK := hide ok
  have FT := hide ft
  rcases ok.kd with hk | hk
  · have hk2 : (s.kd == 115) = false := by rw [hk]; rfl
    have HR := hide (show codeB (uSteps s r) = codeB (movesL 71 r s.st s.ln s.od) ++ codeB [⟨65, r, 0, 0, 0⟩] by rw [uSteps, xStep, if_neg (by omega), List.append_nil, codeB_app])
    clear hk ok ft hpl
    go_enter Try.func88, Try.ntmps88
    go_wp2_with fail
    refine (moves_any 71 s r _ (unhide OK) (unhide FT) (.inl rfl) hr).mono ?_
    rintro e w1 ⟨rfl, hb1⟩
    have HB1 : Hid (Below (w.heap.size + 1) (w.alloc (.cells #[.int .i64 s.pl, .int .u8 s.nm, .int .i64 s.st, .int .i64 s.ln, .int .u8 s.od, .int .u8 s.kd, .int .u8 s.rl] 121)) w1) := hide (hb1.mono (by simp))
    have hc1 := box_cell (unhide HB1)
    clear hb1
    go_wp2_with fail
    refine (instructionText_any 65 r 0 0 0 _ (unhide HBA)).mono ?_
    rintro e w2 ⟨rfl, hb2⟩
    have HB2 := hide (box_next (unhide HB1) hb2)
    clear hb2 hc1
    go_wp2
    go_ret
    exact ⟨by rw [unhide HR]; rfl, box_below (unhide HB2)⟩
  · have hk2 : (s.kd == 115) = true := by rw [hk]; rfl
    have HBX := hide (show (⟨88, r, 0, 0, s.ln⟩ : Ins).Byt from (hpl _ (by simp [uSteps, xStep, hk])).1)
    have HR := hide (show codeB (uSteps s r) = codeB (movesL 71 r s.st s.ln s.od) ++ codeB [⟨88, r, 0, 0, s.ln⟩] ++ codeB [⟨65, r, 0, 0, 0⟩] by rw [uSteps, xStep, if_pos hk, codeB_app, codeB_app])
    clear hk ok ft hpl
    go_enter Try.func88, Try.ntmps88
    go_wp2_with fail
    refine (moves_any 71 s r _ (unhide OK) (unhide FT) (.inl rfl) hr).mono ?_
    rintro e w1 ⟨rfl, hb1⟩
    have HB1 : Hid (Below (w.heap.size + 1) (w.alloc (.cells #[.int .i64 s.pl, .int .u8 s.nm, .int .i64 s.st, .int .i64 s.ln, .int .u8 s.od, .int .u8 s.kd, .int .u8 s.rl] 121)) w1) := hide (hb1.mono (by simp))
    have hc1 := box_cell (unhide HB1)
    clear hb1
    go_wp2_with fail
    refine (instructionText_any 88 r 0 0 s.ln _ (unhide HBX)).mono ?_
    rintro e w2 ⟨rfl, hb2⟩
    have HB2 := hide (box_next (unhide HB1) hb2)
    clear hb2 hc1
    go_wp2_with fail
    refine (instructionText_any 65 r 0 0 0 _ (unhide HBA)).mono ?_
    rintro e w3 ⟨rfl, hb3⟩
    have HB3 := hide (box_next (unhide HB2) hb3)
    clear hb3
    go_wp2
    go_ret
    exact ⟨by rw [unhide HR]; rfl, box_below (unhide HB3)⟩

set_option maxRecDepth 100000 in
set_option maxHeartbeats 2000000 in
theorem ifActive_any (s : Sg) (mux : Int) (l : List Ins) (w : World) (r0 : 0 ≤ s.rl) (r1 : s.rl ≤ 255) (hm : isDigB s.rl = true → 0 ≤ mux ∧ mux ≤ 7) (hl : l.length ≤ 255) :
    Calls Try.prog 87 #[.agg #[.int .i64 s.pl, .int .u8 s.nm, .int .i64 s.st, .int .i64 s.ln, .int .u8 s.od, .int .u8 s.kd, .int .u8 s.rl], .int .i64 mux, .string (codeB l)] w
      fun e w' => e = .returned (.string (codeB (ifAct s mux l))) ∧ Below w.heap.size w w' := by
  have hs2 := codeB_size l
  cases hd : isDigB s.rl with
  | false =>
    have HR := hide (show codeB (ifAct s mux l) = codeB l by rw [ifAct, hd]; rfl)
    go_enter Try.func87, Try.ntmps87
    go_wp2_with (go_at_call 95; refine (isDigit_any _ _).mono ?_; rintro e w' ⟨rfl, rfl⟩)
    go_ret
    exact ⟨by rw [unhide HR]; rfl, (Below.refl _ _).alloc (Nat.le_refl _) _⟩
  | true =>
    obtain ⟨m0, m7⟩ := hm hd
    have HD := hide hd
    have hd2 := hd
    simp [isDigB] at hd2
    obtain ⟨d0, d1⟩ := hd2
    have hq : ((codeB l).size : Int) / 5 = (l.length : Int) := by rw [hs2]; omega
    have HW := hide (dig_worth d0 d1)
    have HR := hide (show codeB (ifAct s mux l) = codeB [⟨74, mux, s.rl - 48, 0, l.length⟩] ++ codeB l by rw [ifAct, if_pos hd, codeB_cons])
    have HBY := hide (show (⟨74, mux, s.rl - 48, 0, l.length⟩ : Ins).Byt from ⟨by simp, by simp, m0, by simp only; omega, by simp only; omega, by simp only; omega, by simp, by simp, by simp only; omega, by simp only; omega⟩)
    have hs1 := codeB_size [(⟨74, mux, s.rl - 48, 0, l.length⟩ : Ins)]
    clear hm
    go_enter Try.func87, Try.ntmps87
    go_wp2_with (go_at_call 95; refine (isDigit_any _ _).mono ?_; rintro e w' ⟨rfl, rfl⟩)
    refine (digitWorth_any _ _ r0 r1).mono ?_
    rintro e w1 ⟨rfl, rfl⟩
    rw [unhide HW]
    go_wp2_with fail
    refine (instructionText_any 74 mux (s.rl - 48) 0 l.length _ (unhide HBY)).mono ?_
    rintro e w2 ⟨rfl, hb2⟩
    have HB2 := hide (((Below.refl w.heap.size w).alloc (Nat.le_refl _) (.cells #[.int .i64 s.pl, .int .u8 s.nm, .int .i64 s.st, .int .i64 s.ln, .int .u8 s.od, .int .u8 s.kd, .int .u8 s.rl] 121)).trans (hb2.mono (by simp)))
    clear hb2
    go_wp2
    go_ret
    exact ⟨by rw [unhide HR]; rfl, unhide HB2⟩

end Go.Proofs.Ytoihlnjcgopdlaa

namespace Go.Proofs.Ytoihlnjcgopdlaa
open Go.RowKit

theorem mux_lim {L : List Sg} {sz : Int} (hs : Sound L sz) (hg : Good L) {k : Nat} (hk : k < L.length) : isDigB (sgAt L k).rl = true → 0 ≤ muxOf L ∧ muxOf L ≤ 7 := fun hd => ⟨sound_mux hs hk hd, mux_hi L hg.1⟩

set_option maxRecDepth 100000 in
set_option maxHeartbeats 2000000 in
theorem packCode_any (v : Value) (L : List Sg) (sz : Int) (w : World) (h : SigsAt w v L) (hg : Good L) (hf : AllFits L) (hs : Sound L sz) :
    Calls Try.prog 63 #[v] w fun e w' => e = .returned (.string (codeB (packTo L L.length))) ∧ Below w.heap.size w w' := by
  have hl := hg.1
  have HG := hide hg
  have HF := hide hf
  have HS := hide hs
  have HV := hide h
  clear hg hf hs
  rcases h.opened with ⟨rfl, a, cc, rfl⟩ | ⟨g, cap, rfl, hgl, hcap, hcm, hc⟩
  · go_enter Try.func63, Try.ntmps63
    go_wp2_with fail
    refine (multiplexor_any _ [] _ (unhide HV) (by simp)).mono ?_
    rintro e w0 ⟨rfl, rfl⟩
    go_wp2
    refine wp_loop_rounds 1 ?_
    rw [rounds_succ]
    go_wp2
    go_ret
    exact ⟨rfl, Below.refl _ _⟩
  have HC := hide hc
  clear hc h
  go_enter Try.func63, Try.ntmps63
  go_wp2_with fail
  refine (multiplexor_any _ L _ (unhide HV) hl).mono ?_
  rintro e w0 ⟨rfl, rfl⟩
  go_wp2
  go_loopw [3, 5] (fun c i wr => ∃ k : Nat, k ≤ L.length ∧ i = .int .i64 k ∧ c = .string (codeB (packTo L k)) ∧ Below w0.heap.size w0 wr) (fun _ i _ => L.length - (intOf i).toNat)
  case atStart => exact ⟨0, by omega, rfl, rfl, Below.refl _ _⟩
  case round =>
    obtain ⟨k, hk, rfl, rfl, hb⟩ := hrel
    have HB := hide hb
    clear hb
    by_cases hlt : k < L.length
    · have c7 := cells7 (unhide HC) hgl (unhide HB) hlt
      obtain ⟨ok, r0, r1⟩ := (unhide HG).2 k hlt
      have OK := hide ok
      have hi0 : (0 : Int) ≤ (k : Int) := by omega
      have hi1 : (k : Int) < (L.length : Int) := by omega
      have hpl := (pSteps_len ok (k : Int)).1
      have hil := ifAct_len (sgAt L k) (muxOf L) (pSteps (sgAt L k) k)
      have hpf := (pack_fine (unhide HS) (unhide HG) (unhide HF) k (by omega)).2
      have hs1 := codeB_size (packTo L k)
      have hs2 := codeB_size (ifAct (sgAt L k) (muxOf L) (pSteps (sgAt L k) k))
      clear ok
      go_wp2_with fail
      refine (packSteps_any (sgAt L k) k _ (unhide OK) (unhide HF k hlt) (by omega)).mono ?_
      rintro e w1 ⟨rfl, hb1⟩
      have HB1 := hide ((unhide HB).trans (hb1.mono (unhide HB).size))
      have c71 := cells7 (unhide HC) hgl (unhide HB1) hlt
      clear hb1 c7
      go_wp2_with fail
      refine (ifActive_any (sgAt L k) (muxOf L) (pSteps (sgAt L k) k) _ r0 r1 (mux_lim (unhide HS) (unhide HG) hlt) (by omega)).mono ?_
      rintro e w2 ⟨rfl, hb2⟩
      have HB2 := hide ((unhide HB1).trans (hb2.mono (unhide HB1).size))
      clear hb2 c71
      go_wp2
      go_roundw
      case rel => exact ⟨k + 1, by omega, by go_num, by rw [packTo, sigP, codeB_app], unhide HB2⟩
      case measure => simp [intOf]; omega
    · have hkn : k = L.length := by omega
      have HK := hide hkn
      clear hkn
      go_wp2
      go_ret
      exact ⟨by rw [← unhide HK]; rfl, unhide HB⟩

set_option maxRecDepth 100000 in
set_option maxHeartbeats 2000000 in
theorem unpackCode_any (v : Value) (L : List Sg) (sz : Int) (w : World) (h : SigsAt w v L) (hg : Good L) (hf : AllFits L) (hs : Sound L sz) :
    Calls Try.prog 64 #[v] w fun e w' => e = .returned (.string (codeB (unpackTo L L.length))) ∧ Below w.heap.size w w' := by
  have hl := hg.1
  have HG := hide hg
  have HF := hide hf
  have HS := hide hs
  have HV := hide h
  clear hg hf hs
  rcases h.opened with ⟨rfl, a, cc, rfl⟩ | ⟨g, cap, rfl, hgl, hcap, hcm, hc⟩
  · go_enter Try.func64, Try.ntmps64
    go_wp2_with fail
    refine (multiplexor_any _ [] _ (unhide HV) (by simp)).mono ?_
    rintro e w0 ⟨rfl, rfl⟩
    rw [show muxOf [] = -1 from rfl]
    go_wp2
    refine wp_loop_rounds 1 ?_
    rw [rounds_succ]
    go_wp2
    go_ret
    exact ⟨rfl, Below.refl _ _⟩
  have HC := hide hc
  clear hc h
  go_enter Try.func64, Try.ntmps64
  go_wp2_with fail
  refine (multiplexor_any _ L _ (unhide HV) hl).mono ?_
  rintro e w0 ⟨rfl, rfl⟩
  rcases mux_range L with hmx | ⟨x, hx, hmx, hrl⟩
  · have HMX := hide hmx
    have HH := hide (show codeB (unpackTo L 0) = { data := #[] } by rw [unpackTo, headU, if_neg (by omega)]; rfl)
    have hmneg : muxOf L < 0 := by omega
    clear hmx
    go_wp2
    go_loopw [3, 5] (fun c i wr => ∃ k : Nat, k ≤ L.length ∧ i = .int .i64 k ∧ c = .string (codeB (unpackTo L k)) ∧ Below w0.heap.size w0 wr) (fun _ i _ => L.length - (intOf i).toNat)
    case atStart => exact ⟨0, by omega, rfl, by rw [unhide HH], Below.refl _ _⟩
    case round =>
      obtain ⟨k, hk, rfl, rfl, hb⟩ := hrel
      have HB := hide hb
      clear hb
      by_cases hlt : k < L.length
      · have hi0 : (0 : Int) ≤ (k : Int) := by omega
        have hi1 : (k : Int) < (L.length : Int) := by omega
        · have hne : ((k : Int) != muxOf L) = true := by rw [bne_iff_ne]; omega
          have c7 := cells7 (unhide HC) hgl (unhide HB) hlt
          obtain ⟨ok, r0, r1⟩ := (unhide HG).2 k hlt
          have OK := hide ok
          have hpl := (uSteps_len ok (k : Int)).1
          have hil := ifAct_len (sgAt L k) (muxOf L) (uSteps (sgAt L k) k)
          have hpf := (unpack_fine (unhide HS) (unhide HG) (unhide HF) k (by omega)).2
          have hs1 := codeB_size (unpackTo L k)
          have hs2 := codeB_size (ifAct (sgAt L k) (muxOf L) (uSteps (sgAt L k) k))
          have HSU := hide (show codeB (unpackTo L (k + 1)) = codeB (unpackTo L k) ++ codeB (ifAct (sgAt L k) (muxOf L) (uSteps (sgAt L k) k)) by rw [unpackTo, sigU, if_neg (by omega), codeB_app])
          clear ok
          go_wp2_with fail
          refine (unpackSteps_any (sgAt L k) k _ (unhide OK) (unhide HF k hlt) (by omega)).mono ?_
          rintro e w1 ⟨rfl, hb1⟩
          have HB1 := hide ((unhide HB).trans (hb1.mono (unhide HB).size))
          have c71 := cells7 (unhide HC) hgl (unhide HB1) hlt
          clear hb1 c7
          go_wp2_with fail
          refine (ifActive_any (sgAt L k) (muxOf L) (uSteps (sgAt L k) k) _ r0 r1 (mux_lim (unhide HS) (unhide HG) hlt) (by omega)).mono ?_
          rintro e w2 ⟨rfl, hb2⟩
          have HB2 := hide ((unhide HB1).trans (hb2.mono (unhide HB1).size))
          clear hb2 c71
          go_wp2
          go_roundw
          case rel => exact ⟨k + 1, by omega, by go_num, by rw [unhide HSU], unhide HB2⟩
          case measure => simp [intOf]; omega
      · have hkn : k = L.length := by omega
        have HK := hide hkn
        clear hkn
        go_wp2
        go_ret
        exact ⟨by rw [← unhide HK]; rfl, unhide HB⟩
  · have HMX := hide hmx
    have HH := hide (show codeB (unpackTo L 0) = codeB (uSteps (sgAt L x) x) by rw [unpackTo, headU, if_pos (by omega), hmx, Int.toNat_natCast])
    have c7 := cells7 (unhide HC) hgl (Below.refl w0.heap.size w0) hx
    have hi0 : (0 : Int) ≤ (x : Int) := by omega
    have hi1 : (x : Int) < (L.length : Int) := by omega
    rw [hmx]
    clear hmx hrl
    go_wp2_with fail
    refine (unpackSteps_any (sgAt L x) x _ ((unhide HG).2 x hx).1 (unhide HF x hx) (by omega)).mono ?_
    rintro e wh ⟨rfl, hbh⟩
    have HBH := hide hbh
    clear hbh c7
    go_wp2
    go_loopw [3, 5] (fun c i wr => ∃ k : Nat, k ≤ L.length ∧ i = .int .i64 k ∧ c = .string (codeB (unpackTo L k)) ∧ Below w0.heap.size w0 wr) (fun _ i _ => L.length - (intOf i).toNat)
    case atStart => exact ⟨0, by omega, rfl, by rw [unhide HH], unhide HBH⟩
    case round =>
      obtain ⟨k, hk, rfl, rfl, hb⟩ := hrel
      have HB := hide hb
      clear hb
      by_cases hlt : k < L.length
      · have hi0 : (0 : Int) ≤ (k : Int) := by omega
        have hi1 : (k : Int) < (L.length : Int) := by omega
        by_cases hkx : k = x
        · have HSU := hide (show codeB (unpackTo L (k + 1)) = codeB (unpackTo L k) by rw [unpackTo, sigU, if_pos (by rw [unhide HMX, hkx]), List.append_nil])
          have hne : ((k : Int) != (x : Int)) = false := by rw [hkx]; simp
          clear hkx
          go_wp2
          go_roundw
          case rel => exact ⟨k + 1, by omega, by go_num, by rw [unhide HSU], unhide HB⟩
          case measure => simp [intOf]; omega
        · have hne : ((k : Int) != (x : Int)) = true := by rw [bne_iff_ne]; omega
          have c7 := cells7 (unhide HC) hgl (unhide HB) hlt
          obtain ⟨ok, r0, r1⟩ := (unhide HG).2 k hlt
          have OK := hide ok
          have hpl := (uSteps_len ok (k : Int)).1
          have hil := ifAct_len (sgAt L k) (x : Int) (uSteps (sgAt L k) k)
          have hpf := (unpack_fine (unhide HS) (unhide HG) (unhide HF) k (by omega)).2
          have hs1 := codeB_size (unpackTo L k)
          have hs2 := codeB_size (ifAct (sgAt L k) (x : Int) (uSteps (sgAt L k) k))
          have HSU := hide (show codeB (unpackTo L (k + 1)) = codeB (unpackTo L k) ++ codeB (ifAct (sgAt L k) (x : Int) (uSteps (sgAt L k) k)) by rw [unpackTo, sigU, if_neg (by rw [unhide HMX]; omega), codeB_app, unhide HMX])
          clear ok
          go_wp2_with fail
          refine (unpackSteps_any (sgAt L k) k _ (unhide OK) (unhide HF k hlt) (by omega)).mono ?_
          rintro e w1 ⟨rfl, hb1⟩
          have HB1 := hide ((unhide HB).trans (hb1.mono (unhide HB).size))
          have c71 := cells7 (unhide HC) hgl (unhide HB1) hlt
          clear hb1 c7
          go_wp2_with fail
          refine (ifActive_any (sgAt L k) (x : Int) (uSteps (sgAt L k) k) _ r0 r1 (fun _ => ⟨by omega, by omega⟩) (by omega)).mono ?_
          rintro e w2 ⟨rfl, hb2⟩
          have HB2 := hide ((unhide HB1).trans (hb2.mono (unhide HB1).size))
          clear hb2 c71
          go_wp2
          go_roundw
          case rel => exact ⟨k + 1, by omega, by go_num, by rw [unhide HSU], unhide HB2⟩
          case measure => simp [intOf]; omega
      · have hkn : k = L.length := by omega
        have HK := hide hkn
        clear hkn
        go_wp2
        go_ret
        exact ⟨by rw [← unhide HK]; rfl, unhide HB⟩

end Go.Proofs.Ytoihlnjcgopdlaa

namespace Go.Proofs.Ytoihlnjcgopdlaa
open Go.RowKit

theorem sound_of {s : ByteArray} {M : List Mg} (hz : chkE s = 0) (h : pDb s 4 0 = .inr M) {k : Nat} (hk : k < M.length) : Sound (mAt M k).sigs (mAt M k).sz := fun _ hj => sound_at hz h hk hj
/-- P11, as the program answers it. -/
def cmp (s id : ByteArray) : ByteArray × ByteArray × Int × Int :=
  if chkE s ≠ 0 then (noBytes, noBytes, chkE s, chkP s) else
  match pDb s 4 0 with
  | .inl _ => (noBytes, noBytes, 0, 0)
  | .inr M => if msgIx M id < 0 then (noBytes, noBytes, 7, 0) else (codeB (packTo (mAt M (msgIx M id).toNat).sigs (mAt M (msgIx M id).toNat).sigs.length), codeB (unpackTo (mAt M (msgIx M id).toNat).sigs (mAt M (msgIx M id).toNat).sigs.length), 0, 0)
theorem cm_eta (x : ByteArray × ByteArray × Int × Int) {z a : ByteArray} {b c : Int} (h : x = (z, a, b, c)) : x.1 = z ∧ x.2.1 = a ∧ x.2.2.1 = b ∧ x.2.2.2 = c := by rw [h]; exact ⟨rfl, rfl, rfl, rfl⟩
theorem cmp_bad {s id : ByteArray} (h : chkE s ≠ 0) : cmp s id = (noBytes, noBytes, chkE s, chkP s) := by rw [cmp, if_pos h]
theorem cmp_id {s id : ByteArray} {M : List Mg} (h : chkE s = 0) (hp : pDb s 4 0 = .inr M) (hi : msgIx M id = -1) : cmp s id = (noBytes, noBytes, 7, 0) := by
  rw [cmp, if_neg (by omega), hp]; simp only; rw [if_pos (by omega)]
theorem cmp_msg {s id : ByteArray} {M : List Mg} {k : Nat} (h : chkE s = 0) (hp : pDb s 4 0 = .inr M) (hi : msgIx M id = k) : cmp s id = (codeB (packTo (mAt M k).sigs (mAt M k).sigs.length), codeB (unpackTo (mAt M k).sigs (mAt M k).sigs.length), 0, 0) := by
  rw [cmp, if_neg (by omega), hp]; simp only; rw [if_neg (by omega), hi, Int.toNat_natCast]

set_option maxRecDepth 100000 in
set_option maxHeartbeats 2000000 in
theorem Compile_any (s id : ByteArray) (w : World) (hs : s.size ≤ maxLen) (hid : id.size ≤ maxLen) :
    Calls Try.prog 35 #[.string s, .string id] w fun e w' => e = .returned (.tuple #[.string (cmp s id).1, .string (cmp s id).2.1, .int .i64 (cmp s id).2.2.1, .int .i64 (cmp s id).2.2.2]) ∧ Below w.heap.size w w' := by
  go_enter Try.func35, Try.ntmps35
  go_wp2_with fail
  refine (soundMessage_any s id _ hs hid).mono ?_
  rintro e w1 ⟨hout, hb1⟩
  have HB1 := hide hb1
  clear hb1
  rcases hout with ⟨hz, rfl⟩ | ⟨hz, M, hpd, hout⟩
  · have HP := hide (cm_eta _ (cmp_bad (id := id) hz))
    have hz2 : (chkE s != 0) = true := by simpa using hz
    clear hz
    go_wp2
    exact bodyPost_ret (v := .tuple #[.string noBytes, .string noBytes, .int .i64 (chkE s), .int .i64 (chkP s)]) (by simp [results, Try.results35, go_sem, noBytes]) rfl ⟨by rw [(unhide HP).1, (unhide HP).2.1, (unhide HP).2.2.1, (unhide HP).2.2.2], (unhide HB1).alloc (unhide HB1).size _⟩
  rcases hout with ⟨hix, rfl⟩ | ⟨k, sv, hk, hix, rfl, hsv, hmo⟩
  · have HP := hide (cm_eta _ (cmp_id hz hpd hix))
    clear hz hpd hix
    go_wp2
    exact bodyPost_ret (v := .tuple #[.string noBytes, .string noBytes, .int .i64 7, .int .i64 0]) (by simp [results, Try.results35, go_sem, noBytes]) rfl ⟨by rw [(unhide HP).1, (unhide HP).2.1, (unhide HP).2.2.1, (unhide HP).2.2.2], (unhide HB1).alloc (unhide HB1).size _⟩
  obtain ⟨m, hm⟩ : ∃ m, m = mAt M k := ⟨_, rfl⟩
  have HPK := hide (cm_eta _ (cmp_msg hz hpd hix))
  have HG := hide (good_of hpd hk).2
  have HAF := hide (sound_fits hz hpd hk)
  have HSO := hide (sound_of hz hpd hk)
  rw [← hm] at hsv hmo HPK HG HAF HSO
  rw [← hm]
  obtain ⟨va, vcap, rfl⟩ := ownsRow_form hsv
  have HSV := hide hsv
  clear hz hpd hix hsv hmo hm hk
  have HBB : Hid (Below (w1.heap.size + 1) (w1.alloc (.cells #[.int .i64 m.pl, .int .i64 (idNum m.id), .int .i64 m.sz, .slice va m.sigs.length vcap] 74)) (w1.alloc (.cells #[.int .i64 m.pl, .int .i64 (idNum m.id), .int .i64 m.sz, .slice va m.sigs.length vcap] 74))) := hide (Below.refl _ _)
  go_wp2_with fail
  refine (packCode_any _ m.sigs m.sz _ (ownsRow_below (unhide HSV) (box_below (unhide HBB))) (unhide HG) (unhide HAF) (unhide HSO)).mono ?_
  rintro e w2 ⟨rfl, hb2⟩
  have HB2 := hide (box_next (unhide HBB) hb2)
  have hx2 := box_cell (unhide HB2)
  clear hb2
  go_wp2_with fail
  refine (unpackCode_any _ m.sigs m.sz _ (ownsRow_below (unhide HSV) (box_below (unhide HB2))) (unhide HG) (unhide HAF) (unhide HSO)).mono ?_
  rintro e w3 ⟨rfl, hb3⟩
  have HB3 := hide (box_next (unhide HB2) hb3)
  clear hb3 hx2
  go_wp2
  exact bodyPost_ret (v := .tuple #[.string (codeB (packTo m.sigs m.sigs.length)), .string (codeB (unpackTo m.sigs m.sigs.length)), .int .i64 0, .int .i64 0]) (by simp [results, Try.results35, go_sem]) rfl ⟨by rw [(unhide HPK).1, (unhide HPK).2.1, (unhide HPK).2.2.1, (unhide HPK).2.2.2], (unhide HB1).trans ((box_below (unhide HB3)).mono (unhide HB1).size)⟩

end Go.Proofs.Ytoihlnjcgopdlaa

namespace Go.Proofs.Ytoihlnjcgopdlaa
open Go.RowKit

theorem bt_tail (s : ByteArray) (i k : Nat) (h : i + k < s.size) : bt (s.extract i s.size) k = bt s (i + k) := by
  have h1 : k < (s.extract i s.size).size := by rw [ByteArray.size_extract]; omega
  rw [bt, dif_pos h1, bt, dif_pos h]
  have : (s.extract i s.size)[k] = s[i + k] := by simp [ByteArray.getElem_extract]
  rw [this]

set_option maxRecDepth 100000 in
set_option maxHeartbeats 1000000 in
theorem rAt_any (s : ByteArray) (i : Nat) (w : World) (h : 5 * i + 5 ≤ s.size) (hs : s.size ≤ 480) :
    Calls Try.prog 54 #[.string s, .int .i64 i] w fun e w' =>
      e = .returned (.agg #[.int .u8 (insAt s i).op, .int .i64 (insAt s i).r, .int .i64 (insAt s i).b, .int .i64 (insAt s i).k, .int .i64 (insAt s i).n]) ∧ Below w.heap.size w w' := by
  obtain ⟨t, HT⟩ : ∃ t, Hid (t = s.extract (i * 5) s.size) := ⟨_, hide rfl⟩
  have hts : t.size = s.size - i * 5 := by rw [unhide HT, ByteArray.size_extract]; omega
  have q0 : 0 < t.size := by omega
  have q1 : 1 < t.size := by omega
  have q2 : 2 < t.size := by omega
  have q3 : 3 < t.size := by omega
  have q4 : 4 < t.size := by omega
  have i0 : (0 : Int) < (t.size : Int) := by omega
  have i1 : (1 : Int) < (t.size : Int) := by omega
  have i2 : (2 : Int) < (t.size : Int) := by omega
  have i3 : (3 : Int) < (t.size : Int) := by omega
  have i4 : (4 : Int) < (t.size : Int) := by omega
  have HB := hide (show (t[0].toNat : Int) = (insAt s i).op ∧ (t[1].toNat : Int) = (insAt s i).r ∧ (t[2].toNat : Int) = (insAt s i).b ∧ (t[3].toNat : Int) = (insAt s i).k ∧ (t[4].toNat : Int) = (insAt s i).n by
    rw [bt_of q0, bt_of q1, bt_of q2, bt_of q3, bt_of q4, unhide HT, bt_tail _ _ _ (by omega), bt_tail _ _ _ (by omega), bt_tail _ _ _ (by omega), bt_tail _ _ _ (by omega), bt_tail _ _ _ (by omega), Nat.mul_comm i 5]
    exact ⟨rfl, rfl, rfl, rfl, rfl⟩)
  have w1 : IntKind.i64.wrap (t[1].toNat : Int) = (t[1].toNat : Int) := by have := (t[1]).toNat_lt; rw [IntKind.wrap_i64]; omega
  have w2 : IntKind.i64.wrap (t[2].toNat : Int) = (t[2].toNat : Int) := by have := (t[2]).toNat_lt; rw [IntKind.wrap_i64]; omega
  have w3 : IntKind.i64.wrap (t[3].toNat : Int) = (t[3].toNat : Int) := by have := (t[3]).toNat_lt; rw [IntKind.wrap_i64]; omega
  have w4 : IntKind.i64.wrap (t[4].toNat : Int) = (t[4].toNat : Int) := by have := (t[4]).toNat_lt; rw [IntKind.wrap_i64]; omega
  have hle : (i : Int) * 5 ≤ (s.size : Int) := by omega
  clear hts
  go_enter Try.func54, Try.ntmps54
  go_wp2
  rw [← unhide HT]
  refine wp_region_noPanic ?_
  refine wp_region_held_drew (S := fun _ => True) (by kernel_rfl) trivial (fun hHeld => ?_)
  refine wpAnyH_take (i := 0) (v := ?_) (at_list rfl) (by kernel_rfl) (by kernel_rfl) (by kernel_rfl) (fun _ _ _ h => h) (Or.inl ⟨by rfl, ?_⟩) (by assumption) ?_
  rotate_left
  · intro w hSw; (try dsimp only at hSw); first | (go_simp; done) | (go_simp; with_reducible rfl)
  try simp only [Act.put]
  try simp only [List.setIfInBounds_toArray]
  try simp only [List.set_cons_succ]
  try simp only [List.set_cons_zero]
  refine wpAnyH_take (i := 2) (v := ?_) (at_list rfl) (by kernel_rfl) (by kernel_rfl) (by kernel_rfl) (fun _ _ _ h => h) (Or.inl ⟨by rfl, ?_⟩) (by assumption) ?_
  rotate_left
  · intro w hSw; (try dsimp only at hSw); first | (go_simp; done) | (go_simp; with_reducible rfl)
  try simp only [Act.put]
  try simp only [List.setIfInBounds_toArray]
  try simp only [List.set_cons_succ]
  try simp only [List.set_cons_zero]
  refine wpAnyH_take (i := 5) (v := ?_) (at_list rfl) (by kernel_rfl) (by kernel_rfl) (by kernel_rfl) (fun _ _ _ h => h) (Or.inl ⟨by rfl, ?_⟩) (by assumption) ?_
  rotate_left
  · intro w hSw; (try dsimp only at hSw); first | (go_simp; done) | (go_simp; with_reducible rfl)
  try simp only [Act.put]
  try simp only [List.setIfInBounds_toArray]
  try simp only [List.set_cons_succ]
  try simp only [List.set_cons_zero]
  refine wpAnyH_take (i := 8) (v := ?_) (at_list rfl) (by kernel_rfl) (by kernel_rfl) (by kernel_rfl) (fun _ _ _ h => h) (Or.inl ⟨by rfl, ?_⟩) (by assumption) ?_
  rotate_left
  · intro w hSw; (try dsimp only at hSw); first | (go_simp; done) | (go_simp; with_reducible rfl)
  try simp only [Act.put]
  try simp only [List.setIfInBounds_toArray]
  try simp only [List.set_cons_succ]
  try simp only [List.set_cons_zero]
  refine wpAnyH_take (i := 11) (v := ?_) (at_list rfl) (by kernel_rfl) (by kernel_rfl) (by kernel_rfl) (fun _ _ _ h => h) (Or.inl ⟨by rfl, ?_⟩) (by assumption) ?_
  rotate_left
  · intro w hSw; (try dsimp only at hSw); first | (go_simp; done) | (go_simp; with_reducible rfl)
  try simp only [Act.put]
  try simp only [List.setIfInBounds_toArray]
  try simp only [List.set_cons_succ]
  try simp only [List.set_cons_zero]
  refine wpAnyH_take (i := 1) (v := ?_) (at_list rfl) (by kernel_rfl) (by kernel_rfl) (by kernel_rfl) (fun _ _ _ h => h) (Or.inl ⟨by rfl, ?_⟩) (by assumption) ?_
  rotate_left
  · intro w hSw; (try dsimp only at hSw); first | (go_simp; done) | (go_simp; with_reducible rfl)
  try simp only [Act.put]
  try simp only [List.setIfInBounds_toArray]
  try simp only [List.set_cons_succ]
  try simp only [List.set_cons_zero]
  refine wpAnyH_take (i := 3) (v := ?_) (at_list rfl) (by kernel_rfl) (by kernel_rfl) (by kernel_rfl) (fun _ _ _ h => h) (Or.inl ⟨by rfl, ?_⟩) (by assumption) ?_
  rotate_left
  · intro w hSw; (try dsimp only at hSw); first | (go_simp; done) | (go_simp; with_reducible rfl)
  try simp only [Act.put]
  try simp only [List.setIfInBounds_toArray]
  try simp only [List.set_cons_succ]
  try simp only [List.set_cons_zero]
  refine wpAnyH_take (i := 6) (v := ?_) (at_list rfl) (by kernel_rfl) (by kernel_rfl) (by kernel_rfl) (fun _ _ _ h => h) (Or.inl ⟨by rfl, ?_⟩) (by assumption) ?_
  rotate_left
  · intro w hSw; (try dsimp only at hSw); first | (go_simp; done) | (go_simp; with_reducible rfl)
  try simp only [Act.put]
  try simp only [List.setIfInBounds_toArray]
  try simp only [List.set_cons_succ]
  try simp only [List.set_cons_zero]
  refine wpAnyH_take (i := 9) (v := ?_) (at_list rfl) (by kernel_rfl) (by kernel_rfl) (by kernel_rfl) (fun _ _ _ h => h) (Or.inl ⟨by rfl, ?_⟩) (by assumption) ?_
  rotate_left
  · intro w hSw; (try dsimp only at hSw); first | (go_simp; done) | (go_simp; with_reducible rfl)
  try simp only [Act.put]
  try simp only [List.setIfInBounds_toArray]
  try simp only [List.set_cons_succ]
  try simp only [List.set_cons_zero]
  refine wpAnyH_take (i := 12) (v := ?_) (at_list rfl) (by kernel_rfl) (by kernel_rfl) (by kernel_rfl) (fun _ _ _ h => h) (Or.inl ⟨by rfl, ?_⟩) (by assumption) ?_
  rotate_left
  · intro w hSw; (try dsimp only at hSw); first | (go_simp; done) | (go_simp; with_reducible rfl)
  try simp only [Act.put]
  try simp only [List.setIfInBounds_toArray]
  try simp only [List.set_cons_succ]
  try simp only [List.set_cons_zero]
  refine wpAnyH_take (i := 4) (v := ?_) (at_list rfl) (by kernel_rfl) (by kernel_rfl) (by kernel_rfl) (fun _ _ _ h => h) (Or.inl ⟨by rfl, ?_⟩) (by assumption) ?_
  rotate_left
  · intro w hSw; (try dsimp only at hSw); first | (go_simp; done) | (go_simp; with_reducible rfl)
  try simp only [Act.put]
  try simp only [List.setIfInBounds_toArray]
  try simp only [List.set_cons_succ]
  try simp only [List.set_cons_zero]
  refine wpAnyH_take (i := 7) (v := ?_) (at_list rfl) (by kernel_rfl) (by kernel_rfl) (by kernel_rfl) (fun _ _ _ h => h) (Or.inl ⟨by rfl, ?_⟩) (by assumption) ?_
  rotate_left
  · intro w hSw; (try dsimp only at hSw); first | (go_simp; done) | (go_simp; with_reducible rfl)
  try simp only [Act.put]
  try simp only [List.setIfInBounds_toArray]
  try simp only [List.set_cons_succ]
  try simp only [List.set_cons_zero]
  refine wpAnyH_take (i := 10) (v := ?_) (at_list rfl) (by kernel_rfl) (by kernel_rfl) (by kernel_rfl) (fun _ _ _ h => h) (Or.inl ⟨by rfl, ?_⟩) (by assumption) ?_
  rotate_left
  · intro w hSw; (try dsimp only at hSw); first | (go_simp; done) | (go_simp; with_reducible rfl)
  try simp only [Act.put]
  try simp only [List.setIfInBounds_toArray]
  try simp only [List.set_cons_succ]
  try simp only [List.set_cons_zero]
  refine wpAnyH_take (i := 13) (v := ?_) (at_list rfl) (by kernel_rfl) (by kernel_rfl) (by kernel_rfl) (fun _ _ _ h => h) (Or.inl ⟨by rfl, ?_⟩) (by assumption) ?_
  rotate_left
  · intro w hSw; (try dsimp only at hSw); first | (go_simp; done) | (go_simp; with_reducible rfl)
  try simp only [Act.put]
  try simp only [List.setIfInBounds_toArray]
  try simp only [List.set_cons_succ]
  try simp only [List.set_cons_zero]
  refine wpAnyH_take (i := 14) (v := ?_) (at_list rfl) (by kernel_rfl) (by kernel_rfl) (by kernel_rfl) (fun _ _ _ h => h) (Or.inl ⟨by rfl, ?_⟩) (by assumption) ?_
  rotate_left
  · intro w hSw; (try dsimp only at hSw); first | (go_simp; done) | (go_simp; with_reducible rfl)
  try simp only [Act.put]
  try simp only [List.setIfInBounds_toArray]
  try simp only [List.set_cons_succ]
  try simp only [List.set_cons_zero]
  refine wpAnyH_ready (rs := [15]) (by kernel_rfl) (by simp) ?_
  refine AllReadyH.cons (at_list rfl) (fun K hK => ?_) AllReadyH.nil
  go_simp
  refine hK.out _ _ (trivial) (fun hHeld => ?_)
  clear hK K
  try simp only [Act.put]
  try simp only [List.setIfInBounds_toArray]
  try simp only [List.set_cons_succ]
  try simp only [List.set_cons_zero]
  refine wpAnyH_done (by kernel_rfl) ?_ _
  refine NoPanic.normal ?_
  go_wp2
  rw [← (unhide HB).1, ← (unhide HB).2.1, ← (unhide HB).2.2.1, ← (unhide HB).2.2.2.1, ← (unhide HB).2.2.2.2]
  exact bodyPost_ret (v := .agg #[.int .u8 t[0].toNat, .int .i64 t[1].toNat, .int .i64 t[2].toNat, .int .i64 t[3].toNat, .int .i64 t[4].toNat]) (by simp [results, Try.results54, go_sem]) rfl ⟨rfl, ((Below.refl _ _).alloc (Nat.le_refl _) _).drew⟩

theorem mod_split (a m : Int) (hm : 0 < m) : a % m = if a.tmod m < 0 then a.tmod m + m else a.tmod m := by
  have h1 : a % m = a.tmod m % m := by
    have := Int.tmod_add_mul_tdiv a m
    conv => lhs; rw [← this]
    rw [Int.add_mul_emod_self_left]
  have h2 : a.tmod m < m := Int.tmod_lt_of_pos a hm
  have h3 : -m < a.tmod m := by
    have := Int.tmod_lt_of_pos (-a) hm
    rw [Int.neg_tmod] at this; omega
  rw [h1]
  split
  · rw [← Int.add_emod_right, Int.emod_eq_of_lt (by omega) (by omega)]
  · rw [Int.emod_eq_of_lt (by omega) h2]

set_option maxHeartbeats 400000 in
theorem mod_any (a m : Int) (w : World) (hm : 0 < m) (hl : m ≤ 4294967296) :
    Calls Try.prog 85 #[.int .i64 a, .int .i64 m] w fun e w' => e = .returned (.int .i64 (a % m)) ∧ w = w' := by
  have HS := hide (mod_split a m hm)
  have h2 : a.tmod m < m := Int.tmod_lt_of_pos a hm
  have h3 : -m < a.tmod m := by
    have := Int.tmod_lt_of_pos (-a) hm
    rw [Int.neg_tmod] at this; omega
  have hw : IntKind.i64.wrap (a.tmod m) = a.tmod m := by rw [IntKind.wrap_i64]; omega
  have hne : (m == 0) = false := by rw [beq_eq_false_iff_ne]; omega
  have hnz : ¬ m = 0 := by omega
  by_cases hneg : a.tmod m < 0
  · have HR := hide (show a % m = a.tmod m + m by rw [unhide HS, if_pos hneg])
    go_enter Try.func85, Try.ntmps85
    go_wp2
    go_ret
    exact ⟨ret_int (by rw [unhide HR]), rfl⟩
  · have HR := hide (show a % m = a.tmod m by rw [unhide HS, if_neg hneg])
    go_enter Try.func85, Try.ntmps85
    go_wp2
    go_ret
    exact ⟨ret_int (by rw [unhide HR]), rfl⟩

set_option maxHeartbeats 2000000 in
theorem known_any (op r b k n left : Int) (w : World) (hb : (⟨op, r, b, k, n⟩ : Ins).Byt) (hk : knownB ⟨op, r, b, k, n⟩ left = true) :
    Calls Try.prog 55 #[.agg #[.int .u8 op, .int .i64 r, .int .i64 b, .int .i64 k, .int .i64 n], .int .i64 left] w
      fun e w' => e = .returned (.bool true) ∧ Below w.heap.size w w' := by
  obtain ⟨o0, o1, r0, r1, b0, b1, k0, k1, n0, n1⟩ := hb
  simp only at o0 o1 r0 r1 b0 b1 k0 k1 n0 n1
  obtain ⟨h1, h2, h3⟩ := known_all hk
  simp only at h1 h2 h3
  clear hk
  rcases h3 with ⟨ho, h3, h4, h5⟩ | ⟨rfl, h3⟩ | ⟨rfl, h3, h4⟩ | ⟨rfl, h3⟩ | rfl
  · have hn : 1 ≤ n := by omega
    clear h2
    rcases ho with rfl | rfl
    · go_enter Try.func55, Try.ntmps55
      go_wp2
      all_goals (go_ret; exact ⟨rfl, (Below.refl _ _).alloc (Nat.le_refl _) _⟩)
    · go_enter Try.func55, Try.ntmps55
      go_wp2
      all_goals (go_ret; exact ⟨rfl, (Below.refl _ _).alloc (Nat.le_refl _) _⟩)
  · have hn : 1 ≤ n := by omega
    clear h2
    go_enter Try.func55, Try.ntmps55
    go_wp2
    all_goals (go_ret; exact ⟨rfl, (Below.refl _ _).alloc (Nat.le_refl _) _⟩)
  · have hn : 1 ≤ n := by omega
    clear h2
    go_enter Try.func55, Try.ntmps55
    go_wp2
    all_goals (go_ret; exact ⟨rfl, (Below.refl _ _).alloc (Nat.le_refl _) _⟩)
  · have hn : 1 ≤ n := by omega
    clear h2
    go_enter Try.func55, Try.ntmps55
    go_wp2
    all_goals (go_ret; exact ⟨rfl, (Below.refl _ _).alloc (Nat.le_refl _) _⟩)
  · clear h2
    go_enter Try.func55, Try.ntmps55
    go_wp2
    all_goals (go_ret; exact ⟨rfl, (Below.refl _ _).alloc (Nat.le_refl _) _⟩)

end Go.Proofs.Ytoihlnjcgopdlaa

namespace Go.Proofs.Ytoihlnjcgopdlaa
open Go.RowKit

def bitsM (N : Nat) : List Int := (List.range 64).map (fun q => (bitN N q : Int))
def marksM (s : St) : List Bool := (List.range 8).map s.mark
theorem bitsM_set (N q : Nat) (c : Bool) : ((bitsM N).map (Value.int .i64)).set q (.int .i64 (c.toNat : Int)) = (bitsM (setb N q c)).map (Value.int .i64) := by
  apply List.ext_getElem
  · simp [bitsM]
  · intro i h1 h2
    rw [List.getElem_set]
    simp [bitsM] at h2 ⊢
    have e : bitN (setb N q c) i = if i = q then c.toNat else bitN N i := by
      rw [← test_toNat, setb_test]
      split
      · rfl
      · rw [test_toNat]
    rw [e]
    by_cases hq : q = i
    · rw [if_pos hq, if_pos hq.symm]
    · rw [if_neg hq, if_neg (fun h => hq h.symm)]
theorem regsM_set (s : St) (q : Nat) (v : Int) : ((regsM s 8).map (Value.int .i64)).set q (.int .i64 v) = (regsM { s with reg := upd s.reg q v } 8).map (Value.int .i64) := by
  apply List.ext_getElem
  · simp [regsM]
  · intro i h1 h2
    rw [List.getElem_set]
    simp [regsM, upd] at h2 ⊢
    by_cases hq : q = i
    · rw [if_pos hq, if_pos hq.symm]
    · rw [if_neg hq, if_neg (fun h => hq h.symm)]
theorem marksM_set (s : St) (q : Nat) : ((marksM s).map Value.bool).set q (.bool true) = (marksM { s with mark := upd s.mark q true }).map Value.bool := by
  apply List.ext_getElem
  · simp [marksM]
  · intro i h1 h2
    rw [List.getElem_set]
    simp [marksM, upd] at h2 ⊢
    by_cases hq : q = i
    · subst hq; rfl
    · have : ¬ i = q := fun h => hq h.symm
      simp [hq, this]

/-- The document's machine: its block gm, its registers, bits and marks in the rows g1, g2, g3. -/
structure RM (w : World) (B gm g1 g2 g3 : Nat) (s : St) : Prop where
  box : w.heap[gm]? = some (.cells #[.slice (some ⟨g1, 0, none⟩) 8 8, .slice (some ⟨g2, 0, none⟩) 64 64, .slice (some ⟨g3, 0, none⟩) 8 8] 107 (0, 0))
  regs : w.ownsRow B 3 1 (.slice (some ⟨g1, 0, none⟩) 8 8) 8 ((regsM s 8).map (Value.int .i64))
  bits : w.ownsRow B 3 1 (.slice (some ⟨g2, 0, none⟩) 64 64) 64 ((bitsM s.N).map (Value.int .i64))
  marks : w.ownsRow B 4 1 (.slice (some ⟨g3, 0, none⟩) 8 8) 8 ((marksM s).map Value.bool)
  nm1 : gm ≠ g1
  nm2 : gm ≠ g2
  nm3 : gm ≠ g3
  n12 : g1 ≠ g2
  n13 : g1 ≠ g3
  n23 : g2 ≠ g3

theorem RM.reg {w : World} {B gm g1 g2 g3 : Nat} {s : St} (h : RM w B gm g1 g2 g3 s) {q : Nat} (hq : q < 8) : w.cell? ⟨g1, q, none⟩ = some (.int .i64 (s.reg q)) := by
  rw [h.regs.cellAt q (by omega)]; simp [regsM, hq]
theorem RM.bit {w : World} {B gm g1 g2 g3 : Nat} {s : St} (h : RM w B gm g1 g2 g3 s) {q : Nat} (hq : q < 64) : w.cell? ⟨g2, q, none⟩ = some (.int .i64 (bitN s.N q)) := by
  rw [h.bits.cellAt q (by omega)]; simp [bitsM, hq]
theorem RM.mark {w : World} {B gm g1 g2 g3 : Nat} {s : St} (h : RM w B gm g1 g2 g3 s) {q : Nat} (hq : q < 8) : w.cell? ⟨g3, q, none⟩ = some (.bool (s.mark q)) := by
  rw [h.marks.cellAt q (by omega)]; simp [marksM, hq]
theorem RM.bel {w w' : World} {B gm g1 g2 g3 : Nat} {s : St} (h : RM w B gm g1 g2 g3 s) (hb : Below w.heap.size w w') : RM w' B gm g1 g2 g3 s :=
  ⟨blk_below h.box hb, ownsRow_bel h.regs hb, ownsRow_bel h.bits hb, ownsRow_bel h.marks hb, h.nm1, h.nm2, h.nm3, h.n12, h.n13, h.n23⟩
theorem RM.l1 {w : World} {B gm g1 g2 g3 : Nat} {s : St} (h : RM w B gm g1 g2 g3 s) : B ≤ g1 ∧ g1 < w.heap.size := h.regs.lt g1 rfl
theorem RM.l2 {w : World} {B gm g1 g2 g3 : Nat} {s : St} (h : RM w B gm g1 g2 g3 s) : B ≤ g2 ∧ g2 < w.heap.size := h.bits.lt g2 rfl
theorem RM.l3 {w : World} {B gm g1 g2 g3 : Nat} {s : St} (h : RM w B gm g1 g2 g3 s) : B ≤ g3 ∧ g3 < w.heap.size := h.marks.lt g3 rfl
theorem RM.lm {w : World} {B gm g1 g2 g3 : Nat} {s : St} (h : RM w B gm g1 g2 g3 s) : gm < w.heap.size := blk_lt h.box
theorem RM.setReg {w : World} {B gm g1 g2 g3 : Nat} {s : St} (h : RM w B gm g1 g2 g3 s) (q : Nat) (v : Int) : RM (w.setCell ⟨g1, q, none⟩ (.int .i64 v)) B gm g1 g2 g3 { s with reg := upd s.reg q v } :=
  ⟨blk_set_other _ h.box h.nm1, by rw [← regsM_set]; exact (h.regs.stored q _).1, ownsRow_setCell_other h.bits (by simp only [Value.ownBlock]; exact fun e => h.n12 (Option.some.inj e).symm) _, ownsRow_setCell_other h.marks (by simp only [Value.ownBlock]; exact fun e => h.n13 (Option.some.inj e).symm) _, h.nm1, h.nm2, h.nm3, h.n12, h.n13, h.n23⟩
theorem RM.setBit {w : World} {B gm g1 g2 g3 : Nat} {s : St} (h : RM w B gm g1 g2 g3 s) (q : Nat) (c : Bool) : RM (w.setCell ⟨g2, q, none⟩ (.int .i64 (c.toNat : Int))) B gm g1 g2 g3 { s with N := setb s.N q c } :=
  ⟨blk_set_other _ h.box h.nm2, ownsRow_setCell_other h.regs (by simp only [Value.ownBlock]; exact fun e => h.n12 (Option.some.inj e)) _, by rw [← bitsM_set]; exact (h.bits.stored q _).1, ownsRow_setCell_other h.marks (by simp only [Value.ownBlock]; exact fun e => h.n23 (Option.some.inj e).symm) _, h.nm1, h.nm2, h.nm3, h.n12, h.n13, h.n23⟩
theorem RM.setMark {w : World} {B gm g1 g2 g3 : Nat} {s : St} (h : RM w B gm g1 g2 g3 s) (q : Nat) : RM (w.setCell ⟨g3, q, none⟩ (.bool true)) B gm g1 g2 g3 { s with mark := upd s.mark q true } :=
  ⟨blk_set_other _ h.box h.nm3, ownsRow_setCell_other h.regs (by simp only [Value.ownBlock]; exact fun e => h.n13 (Option.some.inj e)) _, ownsRow_setCell_other h.bits (by simp only [Value.ownBlock]; exact fun e => h.n23 (Option.some.inj e)) _, by rw [← marksM_set]; exact (h.marks.stored q _).1, h.nm1, h.nm2, h.nm3, h.n12, h.n13, h.n23⟩

theorem low_int (v : Int) : v % 4294967296 = (low v : Int) := by unfold low; omega
theorem one_and (x q : Nat) (hx : x < 4294967296) : bits BinOp.and IntKind.i64 ((x : Int) / 2 ^ q) 1 = (bitN x q : Int) := by
  have e : ((x : Int) / 2 ^ q) = ((x / 2 ^ q : Nat) : Int) := by simp
  have hle : x / 2 ^ q ≤ x := Nat.div_le_self _ _
  rw [e, bitN]
  generalize x / 2 ^ q = y at *
  rw [and_one_i64 _ (by omega) (by omega)]
  omega
theorem setb_clear {x q : Nat} (h : x.testBit q = false) : setb x q true = x + 2 ^ q := by
  have hp : 2 ^ (q + 1) = 2 * 2 ^ q := by rw [Nat.pow_succ, Nat.mul_comm]
  have hd : 2 ^ (q + 1) * (x / 2 ^ (q + 1)) + x % 2 ^ (q + 1) = x := Nat.div_add_mod x _
  have hy : x % 2 ^ (q + 1) < 2 ^ q := by
    have h1 : x % 2 ^ (q + 1) < 2 ^ (q + 1) := Nat.mod_lt _ (Nat.two_pow_pos _)
    have h2 : (x % 2 ^ (q + 1)).testBit q = false := by rw [Nat.testBit_mod_two_pow, h]; simp
    rcases Nat.lt_or_ge (x % 2 ^ (q + 1)) (2 ^ q) with h3 | h3
    · exact h3
    · have h4 : (x % 2 ^ (q + 1)).testBit q = true := by
        rw [Nat.testBit_eq_decide_div_mod_eq]
        have : x % 2 ^ (q + 1) / 2 ^ q = 1 := Nat.div_eq_of_lt_le (by omega) (by omega)
        rw [this]; rfl
      rw [h2] at h4; cases h4
  have hs := setb_add hy true
  rw [Bool.toNat_true, Nat.one_mul] at hs
  have hl : setb (x % 2 ^ (q + 1)) q true < 2 ^ (q + 1) := by rw [hs]; omega
  have e : x + 2 ^ q = 2 ^ (q + 1) * (x / 2 ^ (q + 1)) + setb (x % 2 ^ (q + 1)) q true := by rw [hs]; omega
  rw [e]
  apply Nat.eq_of_testBit_eq
  intro i
  rw [Nat.testBit_two_pow_mul_add _ hl, setb_test, setb_test]
  by_cases hi : i = q
  · rw [if_pos hi, if_pos hi, if_pos (by omega)]
  · rw [if_neg hi, if_neg hi]
    conv => lhs; rw [← hd]
    rw [Nat.testBit_two_pow_mul_add _ (Nat.mod_lt _ (Nat.two_pow_pos _))]
theorem setb_unset {x q : Nat} (h : x.testBit q = true) : setb x q false + 2 ^ q = x := by
  have h0 : (setb x q false).testBit q = false := by rw [setb_test, if_pos rfl]
  rw [← setb_clear h0]
  apply Nat.eq_of_testBit_eq
  intro i
  rw [setb_test, setb_test]
  by_cases hi : i = q
  · rw [if_pos hi, hi, h]
  · rw [if_neg hi, if_neg hi]
theorem setb_val (x q : Nat) (c : Bool) : (setb x q c : Int) = (x : Int) + ((c.toNat : Int) - (bitN x q : Int)) * ((2 ^ q : Nat) : Int) := by
  have hb := bitN_test x q
  cases ht : x.testBit q with
  | false =>
    rw [ht] at hb
    simp only [Bool.false_eq_true, if_false] at hb
    rw [hb]
    cases c with
    | false => rw [setb, if_pos ht]; simp
    | true => rw [setb_clear ht]; simp
  | true =>
    rw [ht] at hb
    simp only [if_true] at hb
    rw [hb]
    cases c with
    | true => rw [setb, if_pos ht]; simp
    | false =>
      have := setb_unset ht
      simp only [Bool.toNat_false]
      generalize 2 ^ q = y at *
      omega
theorem wrap_small (z : Int) (h0 : -9223372036854775808 ≤ z) (h1 : z < 9223372036854775808) : wrap64 z = z := by simp only [wrap64]; omega
theorem setb_int (x q : Nat) (c : Bool) (hq : q < 32) (hx : x < 4294967296) : wrap64 ((x : Int) + wrap64 (((c.toNat : Int) - (bitN x q : Int)) * 2 ^ q)) = (setb x q c : Int) := by
  have hp : (2 : Nat) ^ q ≤ 2 ^ 31 := Nat.pow_le_pow_right (by omega) (by omega)
  have e31 : (2 : Nat) ^ 31 = 2147483648 := rfl
  have e : ((2 : Int) ^ q) = ((2 ^ q : Nat) : Int) := by simp
  rw [e, setb_val]
  rw [e31] at hp
  have hbl := bitN_lt x q
  have hcl : c.toNat ≤ 1 := by cases c <;> simp
  have hz : -2147483648 ≤ ((c.toNat : Int) - (bitN x q : Int)) * ((2 ^ q : Nat) : Int) ∧ ((c.toNat : Int) - (bitN x q : Int)) * ((2 ^ q : Nat) : Int) ≤ 2147483648 := by
    generalize 2 ^ q = y at *
    obtain h | h | h : (c.toNat : Int) - (bitN x q : Int) = 0 ∨ (c.toNat : Int) - (bitN x q : Int) = 1 ∨ (c.toNat : Int) - (bitN x q : Int) = -1 := by omega
    · rw [h]; omega
    · rw [h]; omega
    · rw [h]; omega
  generalize ((c.toNat : Int) - (bitN x q : Int)) * ((2 ^ q : Nat) : Int) = z at *
  rw [wrap_small z (by omega) (by omega), wrap_small _ (by omega) (by omega)]

end Go.Proofs.Ytoihlnjcgopdlaa

namespace Go.Proofs.Ytoihlnjcgopdlaa
open Go.RowKit

set_option maxRecDepth 100000 in
set_option maxHeartbeats 2000000 in
theorem rMoveG_any (B gm g1 g2 g3 : Nat) (s : St) (q b k n : Nat) (w : World) (h : RM w B gm g1 g2 g3 s) (hB : B ≤ w.heap.size) (hq : q < 8) (hb : b + n ≤ 64) (hk : k + n ≤ 32) :
    Calls Try.prog 84 #[.pointer (some ⟨gm, 0, none⟩), .agg #[.int .u8 71, .int .i64 q, .int .i64 b, .int .i64 k, .int .i64 n]] w
      fun e w' => e = .returned (.tuple #[]) ∧ RM w' B gm g1 g2 g3 { s with reg := upd s.reg q (putTo (low (s.reg q)) s.N k b n : Nat) } ∧ Below B w w' := by
  have HRM := hide h
  have HBX : Hid (Below (w.heap.size + 1) (w.alloc (.cells #[.int .u8 71, .int .i64 q, .int .i64 b, .int .i64 k, .int .i64 n] 95)) (w.alloc (.cells #[.int .u8 71, .int .i64 q, .int .i64 b, .int .i64 k, .int .i64 n] 95))) := hide (Below.refl _ _)
  have hbx := fun (wx : World) (h : Below (w.heap.size + 1) (w.alloc (.cells #[.int .u8 71, .int .i64 q, .int .i64 b, .int .i64 k, .int .i64 n] 95)) wx) => box_cell h
  have hgm := fun (wx : World) (h : Below (w.heap.size + 1) (w.alloc (.cells #[.int .u8 71, .int .i64 q, .int .i64 b, .int .i64 k, .int .i64 n] 95)) wx) => blk_cell ((unhide HRM).bel (box_below h)).box
  have hrg := fun (wx : World) (h : Below (w.heap.size + 1) (w.alloc (.cells #[.int .u8 71, .int .i64 q, .int .i64 b, .int .i64 k, .int .i64 n] 95)) wx) => ((unhide HRM).bel (box_below h)).reg hq
  have hq0 : (0 : Int) ≤ (q : Int) := by omega
  have hq8 : (q : Int) < 8 := by omega
  clear h
  go_enter Try.func84, Try.ntmps84
  go_wp2
  refine wp_region_noPanic ?_
  refine wp_region_held_drew (S := fun wx => Below (w.heap.size + 1) (w.alloc (.cells #[.int .u8 71, .int .i64 q, .int .i64 b, .int .i64 k, .int .i64 n] 95)) wx) (by kernel_rfl) (unhide HBX).drew (fun hHeld => ?_)
  refine wpAnyH_take (i := 0) (v := ?_) (at_list rfl) (by kernel_rfl) (by kernel_rfl) (by kernel_rfl) (fun _ _ _ h => h) (Or.inl ⟨by rfl, ?_⟩) (by assumption) ?_
  rotate_left
  · intro w hSw; (try dsimp only at hSw); first | (go_simp; done) | (go_simp; with_reducible rfl)
  try simp only [Act.put]
  try simp only [List.setIfInBounds_toArray]
  try simp only [List.set_cons_succ]
  try simp only [List.set_cons_zero]
  refine wpAnyH_take (i := 1) (v := ?_) (at_list rfl) (by kernel_rfl) (by kernel_rfl) (by kernel_rfl) (fun _ _ _ h => h) (Or.inl ⟨by rfl, ?_⟩) (by assumption) ?_
  rotate_left
  · intro w hSw; (try dsimp only at hSw); first | (go_simp; done) | (go_simp; with_reducible rfl)
  try simp only [Act.put]
  try simp only [List.setIfInBounds_toArray]
  try simp only [List.set_cons_succ]
  try simp only [List.set_cons_zero]
  refine wpAnyH_take (i := 2) (v := ?_) (at_list rfl) (by kernel_rfl) (by kernel_rfl) (by kernel_rfl) (fun _ _ _ h => h) (Or.inl ⟨by rfl, ?_⟩) (by assumption) ?_
  rotate_left
  · intro w hSw; (try dsimp only at hSw); first | (go_simp; done) | (go_simp; with_reducible rfl)
  try simp only [Act.put]
  try simp only [List.setIfInBounds_toArray]
  try simp only [List.set_cons_succ]
  try simp only [List.set_cons_zero]
  refine wpAnyH_take (i := 3) (v := ?_) (at_list rfl) (by kernel_rfl) (by kernel_rfl) (by kernel_rfl) (fun _ _ _ h => h) (Or.inl ⟨by rfl, ?_⟩) (by assumption) ?_
  rotate_left
  · intro w hSw; (try dsimp only at hSw); first | (go_simp; done) | (go_simp; with_reducible rfl)
  try simp only [Act.put]
  try simp only [List.setIfInBounds_toArray]
  try simp only [List.set_cons_succ]
  try simp only [List.set_cons_zero]
  refine wpAnyH_take (i := 4) (v := ?_) (at_list rfl) (by kernel_rfl) (by kernel_rfl) (by kernel_rfl) (fun _ _ _ h => h) (Or.inl ⟨by rfl, ?_⟩) (by assumption) ?_
  rotate_left
  · intro w hSw; (try dsimp only at hSw); first | (go_simp; done) | (go_simp; with_reducible rfl)
  try simp only [Act.put]
  try simp only [List.setIfInBounds_toArray]
  try simp only [List.set_cons_succ]
  try simp only [List.set_cons_zero]
  refine wpAnyH_take (i := 5) (v := ?_) (at_list rfl) (by kernel_rfl) (by kernel_rfl) (by kernel_rfl) (fun _ _ _ h => h) (Or.inl ⟨by rfl, ?_⟩) (by assumption) ?_
  rotate_left
  · intro w hSw; (try dsimp only at hSw); first | (go_simp; done) | (go_simp; with_reducible rfl)
  try simp only [Act.put]
  try simp only [List.setIfInBounds_toArray]
  try simp only [List.set_cons_succ]
  try simp only [List.set_cons_zero]
  refine wpAnyH_take (i := 6) (v := ?_) (at_list rfl) (by kernel_rfl) (by kernel_rfl) (by kernel_rfl) (fun _ _ _ h => h) (Or.inl ⟨by rfl, ?_⟩) (by assumption) ?_
  rotate_left
  · intro w hSw; (try dsimp only at hSw); first | (go_simp; done) | (go_simp; with_reducible rfl)
  try simp only [Act.put]
  try simp only [List.setIfInBounds_toArray]
  try simp only [List.set_cons_succ]
  try simp only [List.set_cons_zero]
  refine wpAnyH_take (i := 7) (v := ?_) (at_list rfl) (by kernel_rfl) (by kernel_rfl) (by kernel_rfl) (fun _ _ _ h => h) (Or.inl ⟨by rfl, ?_⟩) (by assumption) ?_
  rotate_left
  · intro w hSw; (try dsimp only at hSw); first | (go_simp; done) | (go_simp; with_reducible rfl)
  try simp only [Act.put]
  try simp only [List.setIfInBounds_toArray]
  try simp only [List.set_cons_succ]
  try simp only [List.set_cons_zero]
  refine wpAnyH_ready (rs := [8]) (by kernel_rfl) (by simp) ?_
  refine AllReadyH.cons (at_list rfl) (fun K hK => ?_) AllReadyH.nil
  go_simp
  refine (mod_any _ _ _ (by omega) (by omega)).mono ?_; rintro e w' ⟨rfl, rfl⟩; dsimp only
  refine hK.out _ _ (hHeld) (fun hHeld => ?_)
  clear hK K
  try simp only [Act.put]
  try simp only [List.setIfInBounds_toArray]
  try simp only [List.set_cons_succ]
  try simp only [List.set_cons_zero]
  refine wpAnyH_take (i := 9) (v := ?_) (at_list rfl) (by kernel_rfl) (by kernel_rfl) (by kernel_rfl) (fun _ _ _ h => h) (Or.inl ⟨by rfl, ?_⟩) (by assumption) ?_
  rotate_left
  · intro w hSw; (try dsimp only at hSw); first | (go_simp; done) | (go_simp; with_reducible rfl)
  try simp only [Act.put]
  try simp only [List.setIfInBounds_toArray]
  try simp only [List.set_cons_succ]
  try simp only [List.set_cons_zero]
  refine wpAnyH_done (by kernel_rfl) ?_ _
  refine NoPanic.normal ?_
  rw [low_int]
  have HB0 := hide hHeld
  obtain ⟨x0, HX0⟩ : ∃ x, Hid (x = low (s.reg q)) := ⟨_, hide rfl⟩
  have hx0 : x0 < 4294967296 := by rw [unhide HX0]; exact low_lt _
  rw [← unhide HX0]
  clear hHeld hrg
  go_wp2
  go_loopw [4, 5] (fun v j wr => ∃ i : Nat, i ≤ n ∧ j = .int .i64 i ∧ v = .int .i64 (putTo x0 s.N k b i : Nat) ∧ Below (w.heap.size + 1) (w.alloc (.cells #[.int .u8 71, .int .i64 q, .int .i64 b, .int .i64 k, .int .i64 n] 95)) wr) (fun _ j _ => n - (intOf j).toNat)
  case atStart => exact ⟨0, by omega, rfl, rfl, unhide HB0⟩
  case round =>
    obtain ⟨i, hi, rfl, rfl, hb1⟩ := hrel
    have HB1 := hide hb1
    have hbw := hbx wr hb1
    have hgw := hgm wr hb1
    obtain ⟨x, HX⟩ : ∃ x, Hid (x = putTo x0 s.N k b i) := ⟨_, hide rfl⟩
    have hxl : x < 4294967296 := by rw [unhide HX]; exact putTo_lt (m := 32) _ _ _ _ hx0 (by omega)
    rw [← unhide HX]
    clear hb1
    by_cases hlt : i < n
    · have hand := one_and x (k + i) hxl
      have hbt := fun (wx : World) (h : Below (w.heap.size + 1) (w.alloc (.cells #[.int .u8 71, .int .i64 q, .int .i64 b, .int .i64 k, .int .i64 n] 95)) wx) => ((unhide HRM).bel (box_below h)).bit (show b + i < 64 by omega)
      have HSET := hide (setb_int x (k + i) (s.N.testBit (b + i)) (by omega) hxl)
      rw [test_toNat] at HSET
      have HNX := hide (show putTo x0 s.N k b (i + 1) = setb x (k + i) (s.N.testBit (b + i)) by rw [putTo, unhide HX])
      have hbn := bitN_lt s.N (b + i)
      have hon := bitN_lt x (k + i)
      have hlt' : (i : Int) < (n : Int) := by omega
      have hw1 : IntKind.i64.wrap ((b : Int) + (i : Int)) = (b : Int) + (i : Int) := by rw [IntKind.wrap_i64]; omega
      have hw3 : (0 : Int) ≤ (b : Int) + (i : Int) := by omega
      have hw4 : (b : Int) + (i : Int) < 64 := by omega
      have hw5 : ((b : Int) + (i : Int)).toNat = b + i := by omega
      go_wp2
      refine wp_region_noPanic ?_
      refine wp_region_held_drew (S := fun wx => Below (w.heap.size + 1) (w.alloc (.cells #[.int .u8 71, .int .i64 q, .int .i64 b, .int .i64 k, .int .i64 n] 95)) wx) (by kernel_rfl) (unhide HB1).drew (fun hHeld => ?_)
      refine wpAnyH_take (i := 0) (v := ?_) (at_list rfl) (by kernel_rfl) (by kernel_rfl) (by kernel_rfl) (fun _ _ _ h => h) (Or.inl ⟨by rfl, ?_⟩) (by assumption) ?_
      rotate_left
      · intro w hSw; (try dsimp only at hSw); first | (go_simp; done) | (go_simp; with_reducible rfl)
      try simp only [Act.put]
      try simp only [List.setIfInBounds_toArray]
      try simp only [List.set_cons_succ]
      try simp only [List.set_cons_zero]
      refine wpAnyH_take (i := 1) (v := ?_) (at_list rfl) (by kernel_rfl) (by kernel_rfl) (by kernel_rfl) (fun _ _ _ h => h) (Or.inl ⟨by rfl, ?_⟩) (by assumption) ?_
      rotate_left
      · intro w hSw; (try dsimp only at hSw); first | (go_simp; done) | (go_simp; with_reducible rfl)
      try simp only [Act.put]
      try simp only [List.setIfInBounds_toArray]
      try simp only [List.set_cons_succ]
      try simp only [List.set_cons_zero]
      refine wpAnyH_take (i := 2) (v := ?_) (at_list rfl) (by kernel_rfl) (by kernel_rfl) (by kernel_rfl) (fun _ _ _ h => h) (Or.inl ⟨by rfl, ?_⟩) (by assumption) ?_
      rotate_left
      · intro w hSw; (try dsimp only at hSw); first | (go_simp; done) | (go_simp; with_reducible rfl)
      try simp only [Act.put]
      try simp only [List.setIfInBounds_toArray]
      try simp only [List.set_cons_succ]
      try simp only [List.set_cons_zero]
      refine wpAnyH_take (i := 3) (v := ?_) (at_list rfl) (by kernel_rfl) (by kernel_rfl) (by kernel_rfl) (fun _ _ _ h => h) (Or.inl ⟨by rfl, ?_⟩) (by assumption) ?_
      rotate_left
      · intro w hSw; (try dsimp only at hSw); first | (go_simp; done) | (go_simp; with_reducible rfl)
      try simp only [Act.put]
      try simp only [List.setIfInBounds_toArray]
      try simp only [List.set_cons_succ]
      try simp only [List.set_cons_zero]
      refine wpAnyH_take (i := 4) (v := ?_) (at_list rfl) (by kernel_rfl) (by kernel_rfl) (by kernel_rfl) (fun _ _ _ h => h) (Or.inl ⟨by rfl, ?_⟩) (by assumption) ?_
      rotate_left
      · intro w hSw; (try dsimp only at hSw); first | (go_simp; done) | (go_simp; with_reducible rfl)
      try simp only [Act.put]
      try simp only [List.setIfInBounds_toArray]
      try simp only [List.set_cons_succ]
      try simp only [List.set_cons_zero]
      refine wpAnyH_take (i := 5) (v := ?_) (at_list rfl) (by kernel_rfl) (by kernel_rfl) (by kernel_rfl) (fun _ _ _ h => h) (Or.inl ⟨by rfl, ?_⟩) (by assumption) ?_
      rotate_left
      · intro w hSw; (try dsimp only at hSw); first | (go_simp; done) | (go_simp; with_reducible rfl)
      try simp only [Act.put]
      try simp only [List.setIfInBounds_toArray]
      try simp only [List.set_cons_succ]
      try simp only [List.set_cons_zero]
      refine wpAnyH_take (i := 6) (v := ?_) (at_list rfl) (by kernel_rfl) (by kernel_rfl) (by kernel_rfl) (fun _ _ _ h => h) (Or.inl ⟨by rfl, ?_⟩) (by assumption) ?_
      rotate_left
      · intro w hSw; (try dsimp only at hSw); first | (go_simp; done) | (go_simp; with_reducible rfl)
      try simp only [Act.put]
      try simp only [List.setIfInBounds_toArray]
      try simp only [List.set_cons_succ]
      try simp only [List.set_cons_zero]
      refine wpAnyH_take (i := 7) (v := ?_) (at_list rfl) (by kernel_rfl) (by kernel_rfl) (by kernel_rfl) (fun _ _ _ h => h) (Or.inl ⟨by rfl, ?_⟩) (by assumption) ?_
      rotate_left
      · intro w hSw; (try dsimp only at hSw); first | (go_simp; done) | (go_simp; with_reducible rfl)
      try simp only [Act.put]
      try simp only [List.setIfInBounds_toArray]
      try simp only [List.set_cons_succ]
      try simp only [List.set_cons_zero]
      refine wpAnyH_take (i := 8) (v := ?_) (at_list rfl) (by kernel_rfl) (by kernel_rfl) (by kernel_rfl) (fun _ _ _ h => h) (Or.inl ⟨by rfl, ?_⟩) (by assumption) ?_
      rotate_left
      · intro w hSw; (try dsimp only at hSw); first | (go_simp; done) | (go_simp; with_reducible rfl)
      try simp only [Act.put]
      try simp only [List.setIfInBounds_toArray]
      try simp only [List.set_cons_succ]
      try simp only [List.set_cons_zero]
      refine wpAnyH_take (i := 9) (v := ?_) (at_list rfl) (by kernel_rfl) (by kernel_rfl) (by kernel_rfl) (fun _ _ _ h => h) (Or.inl ⟨by rfl, ?_⟩) (by assumption) ?_
      rotate_left
      · intro w hSw; (try dsimp only at hSw); first | (go_simp; done) | (go_simp; with_reducible rfl)
      try simp only [Act.put]
      try simp only [List.setIfInBounds_toArray]
      try simp only [List.set_cons_succ]
      try simp only [List.set_cons_zero]
      refine wpAnyH_take (i := 10) (v := ?_) (at_list rfl) (by kernel_rfl) (by kernel_rfl) (by kernel_rfl) (fun _ _ _ h => h) (Or.inl ⟨by rfl, ?_⟩) (by assumption) ?_
      rotate_left
      · intro w hSw; (try dsimp only at hSw); first | (go_simp; done) | (go_simp; with_reducible rfl)
      try simp only [Act.put]
      try simp only [List.setIfInBounds_toArray]
      try simp only [List.set_cons_succ]
      try simp only [List.set_cons_zero]
      refine wpAnyH_done (by kernel_rfl) ?_ _
      refine NoPanic.normal ?_
      have hbw2 := hbx _ hHeld
      have HB2 := hide hHeld
      clear hHeld hbt hbw hgw hbx hgm
      go_wp2
      go_roundw
      case rel => exact ⟨i + 1, by omega, by go_num, by rw [unhide HNX, ← unhide HSET], unhide HB2⟩
      case measure => simp [intOf]; omega
    · have hin : i = n := by omega
      have HR := hide (show x = putTo (low (s.reg q)) s.N k b n by rw [unhide HX, unhide HX0, hin])
      have HM1 := hide ((unhide HRM).bel (box_below (unhide HB1)))
      have HBI := hide (show wr.heap[w.heap.size]? = some (.cells #[.int .u8 71, .int .i64 q, .int .i64 b, .int .i64 k, .int .i64 n] 95 (0, 0)) by rw [(unhide HB1).block _ (by omega)]; exact blk_new _ _)
      have hlt' : ¬ (i : Int) < (n : Int) := by omega
      have hdm := fun (wx : World) (h : wx.heap[gm]? = some (.cells #[.slice (some ⟨g1, 0, none⟩) 8 8, .slice (some ⟨g2, 0, none⟩) 64 64, .slice (some ⟨g3, 0, none⟩) 8 8] 107 (0, 0)) ∧ wx.heap[w.heap.size]? = some (.cells #[.int .u8 71, .int .i64 q, .int .i64 b, .int .i64 k, .int .i64 n] 95 (0, 0))) => blk_cell h.1
      have hdb := fun (wx : World) (h : wx.heap[gm]? = some (.cells #[.slice (some ⟨g1, 0, none⟩) 8 8, .slice (some ⟨g2, 0, none⟩) 64 64, .slice (some ⟨g3, 0, none⟩) 8 8] 107 (0, 0)) ∧ wx.heap[w.heap.size]? = some (.cells #[.int .u8 71, .int .i64 q, .int .i64 b, .int .i64 k, .int .i64 n] 95 (0, 0))) => blk_cell h.2
      clear hin
      go_wp2
      refine wp_region_noPanic ?_
      refine wp_region_held_drew (S := fun wx => wx.heap[gm]? = some (.cells #[.slice (some ⟨g1, 0, none⟩) 8 8, .slice (some ⟨g2, 0, none⟩) 64 64, .slice (some ⟨g3, 0, none⟩) 8 8] 107 (0, 0)) ∧ wx.heap[w.heap.size]? = some (.cells #[.int .u8 71, .int .i64 q, .int .i64 b, .int .i64 k, .int .i64 n] 95 (0, 0))) (by kernel_rfl) ⟨(unhide HM1).box, unhide HBI⟩ (fun hHeld => ?_)
      have HM2 := hide ((unhide HM1).bel (Below.refl wr.heap.size wr).drew)
      have hrc := (unhide HM2).reg hq
      have hfr := (unhide HM2).regs.frozenAt q
      have hne : w.heap.size ≠ g1 := by have := (unhide HRM).l1; omega
      have hS9 := And.intro ((unhide HM2).setReg q (x : Int)).box (blk_set_other (j := q) (.int .i64 (x : Int)) hHeld.2 hne)
      have HB9 := hide (((box_below (unhide HB1)).mono hB).drew.setCell (p := ⟨g1, q, none⟩) (unhide HRM).l1.1 (.int .i64 (x : Int)))
      refine wpAnyH_take (i := 0) (v := ?_) (at_list rfl) (by kernel_rfl) (by kernel_rfl) (by kernel_rfl) (fun _ _ _ h => h) (Or.inl ⟨by rfl, ?_⟩) (by assumption) ?_
      rotate_left
      · intro w hSw; (try dsimp only at hSw); first | (go_simp; done) | (go_simp; with_reducible rfl)
      try simp only [Act.put]
      try simp only [List.setIfInBounds_toArray]
      try simp only [List.set_cons_succ]
      try simp only [List.set_cons_zero]
      refine wpAnyH_take (i := 1) (v := ?_) (at_list rfl) (by kernel_rfl) (by kernel_rfl) (by kernel_rfl) (fun _ _ _ h => h) (Or.inl ⟨by rfl, ?_⟩) (by assumption) ?_
      rotate_left
      · intro w hSw; (try dsimp only at hSw); first | (go_simp; done) | (go_simp; with_reducible rfl)
      try simp only [Act.put]
      try simp only [List.setIfInBounds_toArray]
      try simp only [List.set_cons_succ]
      try simp only [List.set_cons_zero]
      refine wpAnyH_take (i := 2) (v := ?_) (at_list rfl) (by kernel_rfl) (by kernel_rfl) (by kernel_rfl) (fun _ _ _ h => h) (Or.inl ⟨by rfl, ?_⟩) (by assumption) ?_
      rotate_left
      · intro w hSw; (try dsimp only at hSw); first | (go_simp; done) | (go_simp; with_reducible rfl)
      try simp only [Act.put]
      try simp only [List.setIfInBounds_toArray]
      try simp only [List.set_cons_succ]
      try simp only [List.set_cons_zero]
      refine wpAnyH_take (i := 3) (v := ?_) (at_list rfl) (by kernel_rfl) (by kernel_rfl) (by kernel_rfl) (fun _ _ _ h => h) (Or.inl ⟨by rfl, ?_⟩) (by assumption) ?_
      rotate_left
      · intro w hSw; (try dsimp only at hSw); first | (go_simp; done) | (go_simp; with_reducible rfl)
      try simp only [Act.put]
      try simp only [List.setIfInBounds_toArray]
      try simp only [List.set_cons_succ]
      try simp only [List.set_cons_zero]
      refine wpAnyH_take (i := 4) (v := ?_) (at_list rfl) (by kernel_rfl) (by kernel_rfl) (by kernel_rfl) (fun _ _ _ h => h) (Or.inl ⟨by rfl, ?_⟩) (by assumption) ?_
      rotate_left
      · intro w hSw; (try dsimp only at hSw); first | (go_simp; done) | (go_simp; with_reducible rfl)
      try simp only [Act.put]
      try simp only [List.setIfInBounds_toArray]
      try simp only [List.set_cons_succ]
      try simp only [List.set_cons_zero]
      refine wpAnyH_take (i := 5) (v := ?_) (at_list rfl) (by kernel_rfl) (by kernel_rfl) (by kernel_rfl) (fun _ _ _ h => h) (Or.inl ⟨by rfl, ?_⟩) (by assumption) ?_
      rotate_left
      · intro w hSw; (try dsimp only at hSw); first | (go_simp; done) | (go_simp; with_reducible rfl)
      try simp only [Act.put]
      try simp only [List.setIfInBounds_toArray]
      try simp only [List.set_cons_succ]
      try simp only [List.set_cons_zero]
      refine wpAnyH_take (i := 6) (v := ?_) (at_list rfl) (by kernel_rfl) (by kernel_rfl) (by kernel_rfl) (fun _ _ _ h => h) (Or.inl ⟨by rfl, ?_⟩) (by assumption) ?_
      rotate_left
      · intro w hSw; (try dsimp only at hSw); first | (go_simp; done) | (go_simp; with_reducible rfl)
      try simp only [Act.put]
      try simp only [List.setIfInBounds_toArray]
      try simp only [List.set_cons_succ]
      try simp only [List.set_cons_zero]
      refine wpAnyH_take (i := 7) (v := ?_) (at_list rfl) (by kernel_rfl) (by kernel_rfl) (by kernel_rfl) (fun _ _ _ h => h) (Or.inl ⟨by rfl, ?_⟩) (by assumption) ?_
      rotate_left
      · intro w hSw; (try dsimp only at hSw); first | (go_simp; done) | (go_simp; with_reducible rfl)
      try simp only [Act.put]
      try simp only [List.setIfInBounds_toArray]
      try simp only [List.set_cons_succ]
      try simp only [List.set_cons_zero]
      refine wpAnyH_ready (rs := [8]) (by kernel_rfl) (by simp) ?_
      refine AllReadyH.cons (at_list rfl) (fun K hK => ?_) AllReadyH.nil
      go_simp
      refine hK.out _ _ (hS9) (fun hHeld => ?_)
      clear hK K
      try simp only [Act.put]
      try simp only [List.setIfInBounds_toArray]
      try simp only [List.set_cons_succ]
      try simp only [List.set_cons_zero]
      refine wpAnyH_done (by kernel_rfl) ?_ _
      refine NoPanic.normal ?_
      clear hdm hdb
      go_wp2
      go_end0
      refine ⟨rfl, ?_, unhide HB9⟩
      rw [← unhide HR]
      exact (unhide HM2).setReg q _

set_option maxRecDepth 100000 in
set_option maxHeartbeats 2000000 in
theorem rMoveP_any (B gm g1 g2 g3 : Nat) (s : St) (q b k n : Nat) (w : World) (h : RM w B gm g1 g2 g3 s) (hB : B ≤ w.heap.size) (hq : q < 8) (hb : b + n ≤ 64) (hk : k + n ≤ 32) :
    Calls Try.prog 84 #[.pointer (some ⟨gm, 0, none⟩), .agg #[.int .u8 80, .int .i64 q, .int .i64 b, .int .i64 k, .int .i64 n]] w
      fun e w' => e = .returned (.tuple #[]) ∧ RM w' B gm g1 g2 g3 { s with N := putTo s.N (low (s.reg q)) b k n } ∧ Below B w w' := by
  have HRM := hide h
  have HBX : Hid (Below (w.heap.size + 1) (w.alloc (.cells #[.int .u8 80, .int .i64 q, .int .i64 b, .int .i64 k, .int .i64 n] 95)) (w.alloc (.cells #[.int .u8 80, .int .i64 q, .int .i64 b, .int .i64 k, .int .i64 n] 95))) := hide (Below.refl _ _)
  have hbx := fun (wx : World) (h : Below (w.heap.size + 1) (w.alloc (.cells #[.int .u8 80, .int .i64 q, .int .i64 b, .int .i64 k, .int .i64 n] 95)) wx) => box_cell h
  have hgm := fun (wx : World) (h : Below (w.heap.size + 1) (w.alloc (.cells #[.int .u8 80, .int .i64 q, .int .i64 b, .int .i64 k, .int .i64 n] 95)) wx) => blk_cell ((unhide HRM).bel (box_below h)).box
  have hrg := fun (wx : World) (h : Below (w.heap.size + 1) (w.alloc (.cells #[.int .u8 80, .int .i64 q, .int .i64 b, .int .i64 k, .int .i64 n] 95)) wx) => ((unhide HRM).bel (box_below h)).reg hq
  have hq0 : (0 : Int) ≤ (q : Int) := by omega
  have hq8 : (q : Int) < 8 := by omega
  clear h
  go_enter Try.func84, Try.ntmps84
  go_wp2
  refine wp_region_noPanic ?_
  refine wp_region_held_drew (S := fun wx => Below (w.heap.size + 1) (w.alloc (.cells #[.int .u8 80, .int .i64 q, .int .i64 b, .int .i64 k, .int .i64 n] 95)) wx) (by kernel_rfl) (unhide HBX).drew (fun hHeld => ?_)
  refine wpAnyH_take (i := 0) (v := ?_) (at_list rfl) (by kernel_rfl) (by kernel_rfl) (by kernel_rfl) (fun _ _ _ h => h) (Or.inl ⟨by rfl, ?_⟩) (by assumption) ?_
  rotate_left
  · intro w hSw; (try dsimp only at hSw); first | (go_simp; done) | (go_simp; with_reducible rfl)
  try simp only [Act.put]
  try simp only [List.setIfInBounds_toArray]
  try simp only [List.set_cons_succ]
  try simp only [List.set_cons_zero]
  refine wpAnyH_take (i := 1) (v := ?_) (at_list rfl) (by kernel_rfl) (by kernel_rfl) (by kernel_rfl) (fun _ _ _ h => h) (Or.inl ⟨by rfl, ?_⟩) (by assumption) ?_
  rotate_left
  · intro w hSw; (try dsimp only at hSw); first | (go_simp; done) | (go_simp; with_reducible rfl)
  try simp only [Act.put]
  try simp only [List.setIfInBounds_toArray]
  try simp only [List.set_cons_succ]
  try simp only [List.set_cons_zero]
  refine wpAnyH_take (i := 2) (v := ?_) (at_list rfl) (by kernel_rfl) (by kernel_rfl) (by kernel_rfl) (fun _ _ _ h => h) (Or.inl ⟨by rfl, ?_⟩) (by assumption) ?_
  rotate_left
  · intro w hSw; (try dsimp only at hSw); first | (go_simp; done) | (go_simp; with_reducible rfl)
  try simp only [Act.put]
  try simp only [List.setIfInBounds_toArray]
  try simp only [List.set_cons_succ]
  try simp only [List.set_cons_zero]
  refine wpAnyH_take (i := 3) (v := ?_) (at_list rfl) (by kernel_rfl) (by kernel_rfl) (by kernel_rfl) (fun _ _ _ h => h) (Or.inl ⟨by rfl, ?_⟩) (by assumption) ?_
  rotate_left
  · intro w hSw; (try dsimp only at hSw); first | (go_simp; done) | (go_simp; with_reducible rfl)
  try simp only [Act.put]
  try simp only [List.setIfInBounds_toArray]
  try simp only [List.set_cons_succ]
  try simp only [List.set_cons_zero]
  refine wpAnyH_take (i := 4) (v := ?_) (at_list rfl) (by kernel_rfl) (by kernel_rfl) (by kernel_rfl) (fun _ _ _ h => h) (Or.inl ⟨by rfl, ?_⟩) (by assumption) ?_
  rotate_left
  · intro w hSw; (try dsimp only at hSw); first | (go_simp; done) | (go_simp; with_reducible rfl)
  try simp only [Act.put]
  try simp only [List.setIfInBounds_toArray]
  try simp only [List.set_cons_succ]
  try simp only [List.set_cons_zero]
  refine wpAnyH_take (i := 5) (v := ?_) (at_list rfl) (by kernel_rfl) (by kernel_rfl) (by kernel_rfl) (fun _ _ _ h => h) (Or.inl ⟨by rfl, ?_⟩) (by assumption) ?_
  rotate_left
  · intro w hSw; (try dsimp only at hSw); first | (go_simp; done) | (go_simp; with_reducible rfl)
  try simp only [Act.put]
  try simp only [List.setIfInBounds_toArray]
  try simp only [List.set_cons_succ]
  try simp only [List.set_cons_zero]
  refine wpAnyH_take (i := 6) (v := ?_) (at_list rfl) (by kernel_rfl) (by kernel_rfl) (by kernel_rfl) (fun _ _ _ h => h) (Or.inl ⟨by rfl, ?_⟩) (by assumption) ?_
  rotate_left
  · intro w hSw; (try dsimp only at hSw); first | (go_simp; done) | (go_simp; with_reducible rfl)
  try simp only [Act.put]
  try simp only [List.setIfInBounds_toArray]
  try simp only [List.set_cons_succ]
  try simp only [List.set_cons_zero]
  refine wpAnyH_take (i := 7) (v := ?_) (at_list rfl) (by kernel_rfl) (by kernel_rfl) (by kernel_rfl) (fun _ _ _ h => h) (Or.inl ⟨by rfl, ?_⟩) (by assumption) ?_
  rotate_left
  · intro w hSw; (try dsimp only at hSw); first | (go_simp; done) | (go_simp; with_reducible rfl)
  try simp only [Act.put]
  try simp only [List.setIfInBounds_toArray]
  try simp only [List.set_cons_succ]
  try simp only [List.set_cons_zero]
  refine wpAnyH_ready (rs := [8]) (by kernel_rfl) (by simp) ?_
  refine AllReadyH.cons (at_list rfl) (fun K hK => ?_) AllReadyH.nil
  go_simp
  refine (mod_any _ _ _ (by omega) (by omega)).mono ?_; rintro e w' ⟨rfl, rfl⟩; dsimp only
  refine hK.out _ _ (hHeld) (fun hHeld => ?_)
  clear hK K
  try simp only [Act.put]
  try simp only [List.setIfInBounds_toArray]
  try simp only [List.set_cons_succ]
  try simp only [List.set_cons_zero]
  refine wpAnyH_take (i := 9) (v := ?_) (at_list rfl) (by kernel_rfl) (by kernel_rfl) (by kernel_rfl) (fun _ _ _ h => h) (Or.inl ⟨by rfl, ?_⟩) (by assumption) ?_
  rotate_left
  · intro w hSw; (try dsimp only at hSw); first | (go_simp; done) | (go_simp; with_reducible rfl)
  try simp only [Act.put]
  try simp only [List.setIfInBounds_toArray]
  try simp only [List.set_cons_succ]
  try simp only [List.set_cons_zero]
  refine wpAnyH_done (by kernel_rfl) ?_ _
  refine NoPanic.normal ?_
  rw [low_int]
  have HB0 := hide hHeld
  obtain ⟨x0, HX0⟩ : ∃ x, Hid (x = low (s.reg q)) := ⟨_, hide rfl⟩
  have hx0 : x0 < 4294967296 := by rw [unhide HX0]; exact low_lt _
  rw [← unhide HX0]
  clear hHeld hrg
  go_wp2
  go_loopw [4, 5] (fun v j wr => ∃ i : Nat, i ≤ n ∧ j = .int .i64 i ∧ v = .int .i64 x0 ∧ RM wr B gm g1 g2 g3 { s with N := putTo s.N x0 b k i } ∧ wr.heap[w.heap.size]? = some (.cells #[.int .u8 80, .int .i64 q, .int .i64 b, .int .i64 k, .int .i64 n] 95 (0, 0)) ∧ Below B w wr) (fun _ j _ => n - (intOf j).toNat)
  case atStart => exact ⟨0, by omega, rfl, rfl, (unhide HRM).bel (box_below (unhide HB0)), blk_new _ _, (box_below (unhide HB0)).mono hB⟩
  case round =>
    obtain ⟨i, hi, rfl, rfl, hm1, hbi, hb1⟩ := hrel
    have HM1 := hide hm1
    have HBI := hide hbi
    have HB1 := hide hb1
    have hbw := blk_cell hbi
    have hgw := blk_cell hm1.box
    have hne : w.heap.size ≠ g2 := by have := (unhide HRM).l2; omega
    clear hb1 hm1 hbi hbx hgm
    by_cases hlt : i < n
    · have hand := one_and x0 (k + i) hx0
      have HNX := hide (show putTo s.N x0 b k (i + 1) = setb (putTo s.N x0 b k i) (b + i) (x0.testBit (k + i)) from rfl)
      have hlt' : (i : Int) < (n : Int) := by omega
      have hw1 : IntKind.i64.wrap ((b : Int) + (i : Int)) = (b : Int) + (i : Int) := by rw [IntKind.wrap_i64]; omega
      have hw3 : (0 : Int) ≤ (b : Int) + (i : Int) := by omega
      have hw4 : (b : Int) + (i : Int) < 64 := by omega
      have hw5 : ((b : Int) + (i : Int)).toNat = b + i := by omega
      have hbl : b + i < 64 := by omega
      generalize putTo s.N x0 b k i = N1 at *
      have hdm := fun (wx : World) (h : wx.heap[gm]? = some (.cells #[.slice (some ⟨g1, 0, none⟩) 8 8, .slice (some ⟨g2, 0, none⟩) 64 64, .slice (some ⟨g3, 0, none⟩) 8 8] 107 (0, 0)) ∧ wx.heap[w.heap.size]? = some (.cells #[.int .u8 80, .int .i64 q, .int .i64 b, .int .i64 k, .int .i64 n] 95 (0, 0))) => blk_cell h.1
      have hdb := fun (wx : World) (h : wx.heap[gm]? = some (.cells #[.slice (some ⟨g1, 0, none⟩) 8 8, .slice (some ⟨g2, 0, none⟩) 64 64, .slice (some ⟨g3, 0, none⟩) 8 8] 107 (0, 0)) ∧ wx.heap[w.heap.size]? = some (.cells #[.int .u8 80, .int .i64 q, .int .i64 b, .int .i64 k, .int .i64 n] 95 (0, 0))) => blk_cell h.2
      have hwb := fun (wx : World) (h : Below wr.heap.size wr wx) => blk_cell (blk_below (unhide HBI) h)
      have hwm := fun (wx : World) (h : Below wr.heap.size wr wx) => blk_cell ((unhide HM1).bel h).box
      have hwt := fun (wx : World) (h : Below wr.heap.size wr wx) => ((unhide HM1).bel h).bit hbl
      go_wp2
      refine wp_region_noPanic ?_
      refine wp_region_held_drew (S := fun wx => Below wr.heap.size wr wx) (by kernel_rfl) (Below.refl _ _).drew (fun hHeld => ?_)
      refine wpAnyH_take (i := 0) (v := ?_) (at_list rfl) (by kernel_rfl) (by kernel_rfl) (by kernel_rfl) (fun _ _ _ h => h) (Or.inl ⟨by rfl, ?_⟩) (by assumption) ?_
      rotate_left
      · intro w hSw; (try dsimp only at hSw); first | (go_simp; done) | (go_simp; with_reducible rfl)
      try simp only [Act.put]
      try simp only [List.setIfInBounds_toArray]
      try simp only [List.set_cons_succ]
      try simp only [List.set_cons_zero]
      refine wpAnyH_take (i := 1) (v := ?_) (at_list rfl) (by kernel_rfl) (by kernel_rfl) (by kernel_rfl) (fun _ _ _ h => h) (Or.inl ⟨by rfl, ?_⟩) (by assumption) ?_
      rotate_left
      · intro w hSw; (try dsimp only at hSw); first | (go_simp; done) | (go_simp; with_reducible rfl)
      try simp only [Act.put]
      try simp only [List.setIfInBounds_toArray]
      try simp only [List.set_cons_succ]
      try simp only [List.set_cons_zero]
      refine wpAnyH_take (i := 2) (v := ?_) (at_list rfl) (by kernel_rfl) (by kernel_rfl) (by kernel_rfl) (fun _ _ _ h => h) (Or.inl ⟨by rfl, ?_⟩) (by assumption) ?_
      rotate_left
      · intro w hSw; (try dsimp only at hSw); first | (go_simp; done) | (go_simp; with_reducible rfl)
      try simp only [Act.put]
      try simp only [List.setIfInBounds_toArray]
      try simp only [List.set_cons_succ]
      try simp only [List.set_cons_zero]
      refine wpAnyH_take (i := 3) (v := ?_) (at_list rfl) (by kernel_rfl) (by kernel_rfl) (by kernel_rfl) (fun _ _ _ h => h) (Or.inl ⟨by rfl, ?_⟩) (by assumption) ?_
      rotate_left
      · intro w hSw; (try dsimp only at hSw); first | (go_simp; done) | (go_simp; with_reducible rfl)
      try simp only [Act.put]
      try simp only [List.setIfInBounds_toArray]
      try simp only [List.set_cons_succ]
      try simp only [List.set_cons_zero]
      refine wpAnyH_take (i := 4) (v := ?_) (at_list rfl) (by kernel_rfl) (by kernel_rfl) (by kernel_rfl) (fun _ _ _ h => h) (Or.inl ⟨by rfl, ?_⟩) (by assumption) ?_
      rotate_left
      · intro w hSw; (try dsimp only at hSw); first | (go_simp; done) | (go_simp; with_reducible rfl)
      try simp only [Act.put]
      try simp only [List.setIfInBounds_toArray]
      try simp only [List.set_cons_succ]
      try simp only [List.set_cons_zero]
      refine wpAnyH_take (i := 5) (v := ?_) (at_list rfl) (by kernel_rfl) (by kernel_rfl) (by kernel_rfl) (fun _ _ _ h => h) (Or.inl ⟨by rfl, ?_⟩) (by assumption) ?_
      rotate_left
      · intro w hSw; (try dsimp only at hSw); first | (go_simp; done) | (go_simp; with_reducible rfl)
      try simp only [Act.put]
      try simp only [List.setIfInBounds_toArray]
      try simp only [List.set_cons_succ]
      try simp only [List.set_cons_zero]
      refine wpAnyH_take (i := 6) (v := ?_) (at_list rfl) (by kernel_rfl) (by kernel_rfl) (by kernel_rfl) (fun _ _ _ h => h) (Or.inl ⟨by rfl, ?_⟩) (by assumption) ?_
      rotate_left
      · intro w hSw; (try dsimp only at hSw); first | (go_simp; done) | (go_simp; with_reducible rfl)
      try simp only [Act.put]
      try simp only [List.setIfInBounds_toArray]
      try simp only [List.set_cons_succ]
      try simp only [List.set_cons_zero]
      refine wpAnyH_take (i := 7) (v := ?_) (at_list rfl) (by kernel_rfl) (by kernel_rfl) (by kernel_rfl) (fun _ _ _ h => h) (Or.inl ⟨by rfl, ?_⟩) (by assumption) ?_
      rotate_left
      · intro w hSw; (try dsimp only at hSw); first | (go_simp; done) | (go_simp; with_reducible rfl)
      try simp only [Act.put]
      try simp only [List.setIfInBounds_toArray]
      try simp only [List.set_cons_succ]
      try simp only [List.set_cons_zero]
      refine wpAnyH_take (i := 8) (v := ?_) (at_list rfl) (by kernel_rfl) (by kernel_rfl) (by kernel_rfl) (fun _ _ _ h => h) (Or.inl ⟨by rfl, ?_⟩) (by assumption) ?_
      rotate_left
      · intro w hSw; (try dsimp only at hSw); first | (go_simp; done) | (go_simp; with_reducible rfl)
      try simp only [Act.put]
      try simp only [List.setIfInBounds_toArray]
      try simp only [List.set_cons_succ]
      try simp only [List.set_cons_zero]
      refine wpAnyH_take (i := 9) (v := ?_) (at_list rfl) (by kernel_rfl) (by kernel_rfl) (by kernel_rfl) (fun _ _ _ h => h) (Or.inl ⟨by rfl, ?_⟩) (by assumption) ?_
      rotate_left
      · intro w hSw; (try dsimp only at hSw); first | (go_simp; done) | (go_simp; with_reducible rfl)
      try simp only [Act.put]
      try simp only [List.setIfInBounds_toArray]
      try simp only [List.set_cons_succ]
      try simp only [List.set_cons_zero]
      refine wpAnyH_take (i := 10) (v := ?_) (at_list rfl) (by kernel_rfl) (by kernel_rfl) (by kernel_rfl) (fun _ _ _ h => h) (Or.inl ⟨by rfl, ?_⟩) (by assumption) ?_
      rotate_left
      · intro w hSw; (try dsimp only at hSw); first | (go_simp; done) | (go_simp; with_reducible rfl)
      try simp only [Act.put]
      try simp only [List.setIfInBounds_toArray]
      try simp only [List.set_cons_succ]
      try simp only [List.set_cons_zero]
      refine wpAnyH_done (by kernel_rfl) ?_ _
      refine NoPanic.normal ?_
      have HM2 := hide ((unhide HM1).bel hHeld)
      have HBI2 := hide (blk_below (unhide HBI) hHeld)
      have HB2 := hide ((unhide HB1).trans (hHeld.mono (by have := (unhide HB1).size; omega)))
      have hbw2 := blk_cell (unhide HBI2)
      clear hHeld hwb hwm hwt hbw hgw
      go_wp2
      refine wp_region_noPanic ?_
      refine wp_region_held_drew (S := fun wx => wx.heap[gm]? = some (.cells #[.slice (some ⟨g1, 0, none⟩) 8 8, .slice (some ⟨g2, 0, none⟩) 64 64, .slice (some ⟨g3, 0, none⟩) 8 8] 107 (0, 0)) ∧ wx.heap[w.heap.size]? = some (.cells #[.int .u8 80, .int .i64 q, .int .i64 b, .int .i64 k, .int .i64 n] 95 (0, 0))) (by kernel_rfl) ⟨(unhide HM2).box, unhide HBI2⟩ (fun hHeld => ?_)
      have HM3 := hide ((unhide HM2).bel (Below.refl _ _).drew)
      have hrc := (unhide HM3).bit hbl
      have hfr := (unhide HM3).bits.frozenAt (b + i)
      have hst := (unhide HM3).setBit (b + i) (x0.testBit (k + i))
      rw [test_toNat] at hst
      have HST := hide hst
      have hS9 := And.intro hst.box (blk_set_other (j := b + i) (.int .i64 (bitN x0 (k + i) : Int)) hHeld.2 hne)
      have HB9 := hide ((unhide HB2).drew.setCell (p := ⟨g2, b + i, none⟩) (unhide HRM).l2.1 (.int .i64 (bitN x0 (k + i) : Int)))
      have HBI9 := hide hS9.2
      clear hst
      refine wpAnyH_take (i := 0) (v := ?_) (at_list rfl) (by kernel_rfl) (by kernel_rfl) (by kernel_rfl) (fun _ _ _ h => h) (Or.inl ⟨by rfl, ?_⟩) (by assumption) ?_
      rotate_left
      · intro w hSw; (try dsimp only at hSw); first | (go_simp; done) | (go_simp; with_reducible rfl)
      try simp only [Act.put]
      try simp only [List.setIfInBounds_toArray]
      try simp only [List.set_cons_succ]
      try simp only [List.set_cons_zero]
      refine wpAnyH_take (i := 1) (v := ?_) (at_list rfl) (by kernel_rfl) (by kernel_rfl) (by kernel_rfl) (fun _ _ _ h => h) (Or.inl ⟨by rfl, ?_⟩) (by assumption) ?_
      rotate_left
      · intro w hSw; (try dsimp only at hSw); first | (go_simp; done) | (go_simp; with_reducible rfl)
      try simp only [Act.put]
      try simp only [List.setIfInBounds_toArray]
      try simp only [List.set_cons_succ]
      try simp only [List.set_cons_zero]
      refine wpAnyH_take (i := 2) (v := ?_) (at_list rfl) (by kernel_rfl) (by kernel_rfl) (by kernel_rfl) (fun _ _ _ h => h) (Or.inl ⟨by rfl, ?_⟩) (by assumption) ?_
      rotate_left
      · intro w hSw; (try dsimp only at hSw); first | (go_simp; done) | (go_simp; with_reducible rfl)
      try simp only [Act.put]
      try simp only [List.setIfInBounds_toArray]
      try simp only [List.set_cons_succ]
      try simp only [List.set_cons_zero]
      refine wpAnyH_take (i := 3) (v := ?_) (at_list rfl) (by kernel_rfl) (by kernel_rfl) (by kernel_rfl) (fun _ _ _ h => h) (Or.inl ⟨by rfl, ?_⟩) (by assumption) ?_
      rotate_left
      · intro w hSw; (try dsimp only at hSw); first | (go_simp; done) | (go_simp; with_reducible rfl)
      try simp only [Act.put]
      try simp only [List.setIfInBounds_toArray]
      try simp only [List.set_cons_succ]
      try simp only [List.set_cons_zero]
      refine wpAnyH_take (i := 4) (v := ?_) (at_list rfl) (by kernel_rfl) (by kernel_rfl) (by kernel_rfl) (fun _ _ _ h => h) (Or.inl ⟨by rfl, ?_⟩) (by assumption) ?_
      rotate_left
      · intro w hSw; (try dsimp only at hSw); first | (go_simp; done) | (go_simp; with_reducible rfl)
      try simp only [Act.put]
      try simp only [List.setIfInBounds_toArray]
      try simp only [List.set_cons_succ]
      try simp only [List.set_cons_zero]
      refine wpAnyH_take (i := 5) (v := ?_) (at_list rfl) (by kernel_rfl) (by kernel_rfl) (by kernel_rfl) (fun _ _ _ h => h) (Or.inl ⟨by rfl, ?_⟩) (by assumption) ?_
      rotate_left
      · intro w hSw; (try dsimp only at hSw); first | (go_simp; done) | (go_simp; with_reducible rfl)
      try simp only [Act.put]
      try simp only [List.setIfInBounds_toArray]
      try simp only [List.set_cons_succ]
      try simp only [List.set_cons_zero]
      refine wpAnyH_take (i := 6) (v := ?_) (at_list rfl) (by kernel_rfl) (by kernel_rfl) (by kernel_rfl) (fun _ _ _ h => h) (Or.inl ⟨by rfl, ?_⟩) (by assumption) ?_
      rotate_left
      · intro w hSw; (try dsimp only at hSw); first | (go_simp; done) | (go_simp; with_reducible rfl)
      try simp only [Act.put]
      try simp only [List.setIfInBounds_toArray]
      try simp only [List.set_cons_succ]
      try simp only [List.set_cons_zero]
      refine wpAnyH_take (i := 7) (v := ?_) (at_list rfl) (by kernel_rfl) (by kernel_rfl) (by kernel_rfl) (fun _ _ _ h => h) (Or.inl ⟨by rfl, ?_⟩) (by assumption) ?_
      rotate_left
      · intro w hSw; (try dsimp only at hSw); first | (go_simp; done) | (go_simp; with_reducible rfl)
      try simp only [Act.put]
      try simp only [List.setIfInBounds_toArray]
      try simp only [List.set_cons_succ]
      try simp only [List.set_cons_zero]
      refine wpAnyH_take (i := 8) (v := ?_) (at_list rfl) (by kernel_rfl) (by kernel_rfl) (by kernel_rfl) (fun _ _ _ h => h) (Or.inl ⟨by rfl, ?_⟩) (by assumption) ?_
      rotate_left
      · intro w hSw; (try dsimp only at hSw); first | (go_simp; done) | (go_simp; with_reducible rfl)
      try simp only [Act.put]
      try simp only [List.setIfInBounds_toArray]
      try simp only [List.set_cons_succ]
      try simp only [List.set_cons_zero]
      refine wpAnyH_take (i := 9) (v := ?_) (at_list rfl) (by kernel_rfl) (by kernel_rfl) (by kernel_rfl) (fun _ _ _ h => h) (Or.inl ⟨by rfl, ?_⟩) (by assumption) ?_
      rotate_left
      · intro w hSw; (try dsimp only at hSw); first | (go_simp; done) | (go_simp; with_reducible rfl)
      try simp only [Act.put]
      try simp only [List.setIfInBounds_toArray]
      try simp only [List.set_cons_succ]
      try simp only [List.set_cons_zero]
      refine wpAnyH_ready (rs := [10]) (by kernel_rfl) (by simp) ?_
      refine AllReadyH.cons (at_list rfl) (fun K hK => ?_) AllReadyH.nil
      go_simp
      refine hK.out _ _ (hS9) (fun hHeld => ?_)
      clear hK K
      try simp only [Act.put]
      try simp only [List.setIfInBounds_toArray]
      try simp only [List.set_cons_succ]
      try simp only [List.set_cons_zero]
      refine wpAnyH_done (by kernel_rfl) ?_ _
      refine NoPanic.normal ?_
      clear hdm hdb hbw2
      go_wp2
      go_roundw
      case rel => exact ⟨i + 1, by omega, by go_num, rfl, by rw [unhide HNX]; exact unhide HST, unhide HBI9, unhide HB9⟩
      case measure => simp [intOf]; omega
    · have hin : i = n := by omega
      subst hin
      rw [unhide HX0] at HM1
      have hlt' : ¬ (i : Int) < (i : Int) := by omega
      go_wp2
      go_end0
      exact ⟨rfl, unhide HM1, unhide HB1⟩

end Go.Proofs.Ytoihlnjcgopdlaa

namespace Go.Proofs.Ytoihlnjcgopdlaa
open Go.RowKit

theorem rFitsB_any (v ln : Int) (sg : Bool) (w : World) (h0 : 1 ≤ ln) (h1 : ln ≤ 32) :
    Calls Try.prog 45 #[.int .i64 v, .int .i64 ln, .bool sg] w fun e w' => e = .returned (.bool (fitsB (if sg then 115 else 117) ln v)) ∧ w = w' := by
  cases sg
  · refine (rFits_any v ln 117 w h0 h1 (.inl rfl)).mono ?_
    rintro e w' ⟨rfl, rfl⟩
    exact ⟨rfl, rfl⟩
  · refine (rFits_any v ln 115 w h0 h1 (.inr rfl)).mono ?_
    rintro e w' ⟨rfl, rfl⟩
    exact ⟨rfl, rfl⟩

set_option maxRecDepth 100000 in
set_option maxHeartbeats 4000000 in
theorem rRun_any (B gm g1 g2 g3 : Nat) (L : List Ins) (s : St) (w : World) (hm : RM w B gm g1 g2 g3 s) (hB : B ≤ w.heap.size) (hf : Fine L) (hl : L.length ≤ 96) :
    Calls Try.prog 58 #[.pointer (some ⟨gm, 0, none⟩), .string (codeB L)] w fun e w' => e = .returned (.tuple #[.int .i64 (runL L s).2.1, .int .i64 (runL L s).2.2]) ∧ RM w' B gm g1 g2 g3 (runL L s).1 ∧ Below B w w' := by
  have HM := hide hm
  have HF := hide hf
  have hsz := codeB_size L
  have hl1 := hm.l1.1
  have hl2 := hm.l2.1
  have hl3 := hm.l3.1
  clear hm hf
  go_enter Try.func58, Try.ntmps58
  go_wp2
  go_loopw [7] (fun i wr => ∃ (a : Nat) (S : St), i = .int .i64 a ∧ a ≤ L.length ∧ RM wr B gm g1 g2 g3 S ∧ Below B w wr ∧ runL (L.drop a) S = runL L s) (fun i _ => L.length - (intOf i).toNat)
  case atStart => exact ⟨0, s, rfl, by omega, unhide HM, Below.refl _ _, rfl⟩
  case round =>
    obtain ⟨a, S, rfl, ha, hma, hbw, hrun⟩ := hrel
    have HMA := hide hma
    have HBW := hide hbw
    have HRUN := hide hrun
    clear hma hbw hrun
    by_cases hlt : a < L.length
    · obtain ⟨x, HX⟩ : ∃ x, Hid (x = inAt L a) := ⟨_, hide rfl⟩
      obtain ⟨hbyt, hkn⟩ := unhide HF a x (by rw [unhide HX]; exact inAt_some L a hlt)
      have HIX := hide (show insAt (codeB L) a = x from insAt_code (by rw [unhide HX]; exact inAt_some L a hlt) hbyt)
      rw [drop_inAt L a hlt, ← unhide HX, runL_cons] at HRUN
      have hi1 : (a : Int) < (L.length : Int) := by omega
      go_wp2_with fail
      refine (rAt_any (codeB L) a _ (by omega) (by omega)).mono ?_
      rintro e w1 ⟨rfl, hb1⟩
      rw [unhide HIX]
      have HM1 := hide ((unhide HMA).bel hb1)
      have HB1 := hide ((unhide HBW).trans (hb1.mono (by have := (unhide HBW).size; omega)))
      obtain ⟨op, r, b, k, n⟩ := x
      have HKN := hide hkn
      have HBY := hide hbyt
      have hr7 := known_r hkn
      have hop := known_op hkn
      simp only at hr7 hop
      have hr0 : 0 ≤ r := hbyt.r0
      have hb0 : 0 ≤ b := hbyt.b0
      have hk0 : 0 ≤ k := hbyt.k0
      have hn0 : 0 ≤ n := hbyt.n0
      have hn255 : n ≤ 255 := hbyt.n1
      simp only
      clear hkn hbyt hb1 HMA HBW
      obtain ⟨q, rfl⟩ : ∃ q : Nat, r = q := ⟨r.toNat, by omega⟩
      obtain ⟨b, rfl⟩ : ∃ q : Nat, b = q := ⟨b.toNat, by omega⟩
      obtain ⟨k, rfl⟩ : ∃ q : Nat, k = q := ⟨k.toNat, by omega⟩
      obtain ⟨n, rfl⟩ : ∃ q : Nat, n = q := ⟨n.toNat, by omega⟩
      have hq : q < 8 := by omega
      have hq0 : (0 : Int) ≤ (q : Int) := by omega
      have hq8 : (q : Int) < 8 := by omega
      have HW2 := hide (show (w1.alloc (.cells #[.int .u8 op, .int .i64 q, .int .i64 b, .int .i64 k, .int .i64 n] 95)).heap[w1.heap.size]? = some (.cells #[.int .u8 op, .int .i64 q, .int .i64 b, .int .i64 k, .int .i64 n] 95 (0, 0)) from blk_new _ _)
      have HM2 := hide ((unhide HM1).bel ((Below.refl _ _).alloc (Nat.le_refl _) (.cells #[.int .u8 op, .int .i64 q, .int .i64 b, .int .i64 k, .int .i64 n] 95)))
      have HB2 := hide ((unhide HB1).alloc (by have := (unhide HB1).size; omega) (.cells #[.int .u8 op, .int .i64 q, .int .i64 b, .int .i64 k, .int .i64 n] 95))
      have hs1 : g1 ≠ w1.heap.size := by have := (unhide HM1).l1; omega
      have hs2 : g2 ≠ w1.heap.size := by have := (unhide HM1).l2; omega
      have hs3 : g3 ≠ w1.heap.size := by have := (unhide HM1).l3; omega
      have hd := fun (wx : World) (h : wx.heap[gm]? = some (.cells #[.slice (some ⟨g1, 0, none⟩) 8 8, .slice (some ⟨g2, 0, none⟩) 64 64, .slice (some ⟨g3, 0, none⟩) 8 8] 107 (0, 0)) ∧ wx.heap[w1.heap.size]? = some (.cells #[.int .u8 op, .int .i64 q, .int .i64 b, .int .i64 k, .int .i64 n] 95 (0, 0))) => blk_cell h.2
      have hdm := fun (wx : World) (h : wx.heap[gm]? = some (.cells #[.slice (some ⟨g1, 0, none⟩) 8 8, .slice (some ⟨g2, 0, none⟩) 64 64, .slice (some ⟨g3, 0, none⟩) 8 8] 107 (0, 0)) ∧ wx.heap[w1.heap.size]? = some (.cells #[.int .u8 op, .int .i64 q, .int .i64 b, .int .i64 k, .int .i64 n] 95 (0, 0))) => blk_cell h.1
      rcases hop with rfl | rfl | rfl | rfl | rfl | rfl
      · obtain ⟨n1, b1, h8, h32⟩ := known_move (unhide HKN) (.inl rfl)
        simp only at n1 b1 h8 h32
        have HR := hide (show runL (L.drop (a + 1)) { S with reg := upd S.reg q (putTo (low (S.reg q)) S.N k b n : Nat) } = runL L s by have := unhide HRUN; rw [act_get] at this; simpa using this)
        clear hd hdm
        go_wp2_with fail
        refine (rMoveG_any B gm g1 g2 g3 S q b k n _ (unhide HM2) (by have := (unhide HB2).size; omega) hq (by omega) (by omega)).mono ?_
        rintro e w3 ⟨rfl, hm3, hb3⟩
        have HM3 := hide hm3
        have HB3 := hide ((unhide HB2).trans hb3)
        clear hm3 hb3
        go_wp2
        go_roundw
        case rel => exact ⟨a + 1, _, by go_num, by omega, unhide HM3, unhide HB3, unhide HR⟩
        case measure => simp [intOf]; omega
      · obtain ⟨n1, b1, h8, h32⟩ := known_move (unhide HKN) (.inr rfl)
        simp only at n1 b1 h8 h32
        have HR := hide (show runL (L.drop (a + 1)) { S with N := putTo S.N (low (S.reg q)) b k n } = runL L s by have := unhide HRUN; rw [act_put] at this; simpa using this)
        clear hd hdm
        go_wp2_with fail
        refine (rMoveP_any B gm g1 g2 g3 S q b k n _ (unhide HM2) (by have := (unhide HB2).size; omega) hq (by omega) (by omega)).mono ?_
        rintro e w3 ⟨rfl, hm3, hb3⟩
        have HM3 := hide hm3
        have HB3 := hide ((unhide HB2).trans hb3)
        clear hm3 hb3
        go_wp2
        go_roundw
        case rel => exact ⟨a + 1, _, by go_num, by omega, unhide HM3, unhide HB3, unhide HR⟩
        case measure => simp [intOf]; omega
      · obtain ⟨n1, h32⟩ := known_x (unhide HKN) rfl
        simp only at n1 h32
        have HR := hide (show runL (L.drop (a + 1)) { S with reg := upd S.reg q (extV (S.reg q) n) } = runL L s by have := unhide HRUN; rw [act_x] at this; simpa using this)
        have hp := pow_half (n : Int) n1
        have hp2 := pow_half2 (n : Int)
        rw [Int.toNat_natCast] at hp hp2
        have hl := half_pos (n : Int)
        have hu := half_le (n : Int) h32
        have hm0 : 0 ≤ S.reg q % (2 * half n) := Int.emod_nonneg _ (by omega)
        have hm1 : S.reg q % (2 * half n) < 2 * half n := Int.emod_lt_of_pos _ (by omega)
        have HE := hide (show extV (S.reg q) n = if half n ≤ S.reg q % (2 * half n) then S.reg q % (2 * half n) - 2 * half n else S.reg q % (2 * half n) from rfl)
        obtain ⟨hh, HH⟩ : ∃ x, Hid (x = half (n : Int)) := ⟨_, hide rfl⟩
        rw [← unhide HH] at hp hp2 hl hu hm0 hm1 HE
        have hw1 : IntKind.i64.wrap (2 * hh) = 2 * hh := by rw [IntKind.wrap_i64]; omega
        have hw2 : IntKind.i64.wrap hh = hh := by rw [IntKind.wrap_i64]; omega
        go_wp2
        generalize w1.alloc (.cells #[.int .u8 88, .int .i64 q, .int .i64 b, .int .i64 k, .int .i64 n] 95) = w2 at *
        generalize w1.heap.size = sb at *
        have hrg := fun (wx : World) (h : Below w2.heap.size w2 wx) => ((unhide HM2).bel h).reg hq
        have hbx := fun (wx : World) (h : Below w2.heap.size w2 wx) => blk_cell (blk_below (unhide HW2) h)
        have hbm := fun (wx : World) (h : Below w2.heap.size w2 wx) => blk_cell ((unhide HM2).bel h).box
        have hbx2 := hbx _ (Below.refl _ _)
        refine wp_region_noPanic ?_
        refine wp_region_held_drew (S := fun wx => Below w2.heap.size w2 wx) (by kernel_rfl) (Below.refl _ _).drew (fun hHeld => ?_)
        refine wpAnyH_take (i := 0) (v := ?_) (at_list rfl) (by kernel_rfl) (by kernel_rfl) (by kernel_rfl) (fun _ _ _ h => h) (Or.inl ⟨by rfl, ?_⟩) (by assumption) ?_
        rotate_left
        · intro w hSw; (try dsimp only at hSw); first | (go_simp; done) | (go_simp; with_reducible rfl)
        try simp only [Act.put]
        try simp only [List.setIfInBounds_toArray]
        try simp only [List.set_cons_succ]
        try simp only [List.set_cons_zero]
        refine wpAnyH_take (i := 1) (v := ?_) (at_list rfl) (by kernel_rfl) (by kernel_rfl) (by kernel_rfl) (fun _ _ _ h => h) (Or.inl ⟨by rfl, ?_⟩) (by assumption) ?_
        rotate_left
        · intro w hSw; (try dsimp only at hSw); first | (go_simp; done) | (go_simp; with_reducible rfl)
        try simp only [Act.put]
        try simp only [List.setIfInBounds_toArray]
        try simp only [List.set_cons_succ]
        try simp only [List.set_cons_zero]
        refine wpAnyH_take (i := 2) (v := ?_) (at_list rfl) (by kernel_rfl) (by kernel_rfl) (by kernel_rfl) (fun _ _ _ h => h) (Or.inl ⟨by rfl, ?_⟩) (by assumption) ?_
        rotate_left
        · intro w hSw; (try dsimp only at hSw); first | (go_simp; done) | (go_simp; with_reducible rfl)
        try simp only [Act.put]
        try simp only [List.setIfInBounds_toArray]
        try simp only [List.set_cons_succ]
        try simp only [List.set_cons_zero]
        refine wpAnyH_take (i := 3) (v := ?_) (at_list rfl) (by kernel_rfl) (by kernel_rfl) (by kernel_rfl) (fun _ _ _ h => h) (Or.inl ⟨by rfl, ?_⟩) (by assumption) ?_
        rotate_left
        · intro w hSw; (try dsimp only at hSw); first | (go_simp; done) | (go_simp; with_reducible rfl)
        try simp only [Act.put]
        try simp only [List.setIfInBounds_toArray]
        try simp only [List.set_cons_succ]
        try simp only [List.set_cons_zero]
        refine wpAnyH_take (i := 4) (v := ?_) (at_list rfl) (by kernel_rfl) (by kernel_rfl) (by kernel_rfl) (fun _ _ _ h => h) (Or.inl ⟨by rfl, ?_⟩) (by assumption) ?_
        rotate_left
        · intro w hSw; (try dsimp only at hSw); first | (go_simp; done) | (go_simp; with_reducible rfl)
        try simp only [Act.put]
        try simp only [List.setIfInBounds_toArray]
        try simp only [List.set_cons_succ]
        try simp only [List.set_cons_zero]
        refine wpAnyH_take (i := 5) (v := ?_) (at_list rfl) (by kernel_rfl) (by kernel_rfl) (by kernel_rfl) (fun _ _ _ h => h) (Or.inl ⟨by rfl, ?_⟩) (by assumption) ?_
        rotate_left
        · intro w hSw; (try dsimp only at hSw); first | (go_simp; done) | (go_simp; with_reducible rfl)
        try simp only [Act.put]
        try simp only [List.setIfInBounds_toArray]
        try simp only [List.set_cons_succ]
        try simp only [List.set_cons_zero]
        refine wpAnyH_take (i := 6) (v := ?_) (at_list rfl) (by kernel_rfl) (by kernel_rfl) (by kernel_rfl) (fun _ _ _ h => h) (Or.inl ⟨by rfl, ?_⟩) (by assumption) ?_
        rotate_left
        · intro w hSw; (try dsimp only at hSw); first | (go_simp; done) | (go_simp; with_reducible rfl)
        try simp only [Act.put]
        try simp only [List.setIfInBounds_toArray]
        try simp only [List.set_cons_succ]
        try simp only [List.set_cons_zero]
        refine wpAnyH_take (i := 7) (v := ?_) (at_list rfl) (by kernel_rfl) (by kernel_rfl) (by kernel_rfl) (fun _ _ _ h => h) (Or.inl ⟨by rfl, ?_⟩) (by assumption) ?_
        rotate_left
        · intro w hSw; (try dsimp only at hSw); first | (go_simp; done) | (go_simp; with_reducible rfl)
        try simp only [Act.put]
        try simp only [List.setIfInBounds_toArray]
        try simp only [List.set_cons_succ]
        try simp only [List.set_cons_zero]
        refine wpAnyH_take (i := 8) (v := ?_) (at_list rfl) (by kernel_rfl) (by kernel_rfl) (by kernel_rfl) (fun _ _ _ h => h) (Or.inl ⟨by rfl, ?_⟩) (by assumption) ?_
        rotate_left
        · intro w hSw; (try dsimp only at hSw); first | (go_simp; done) | (go_simp; with_reducible rfl)
        try simp only [Act.put]
        try simp only [List.setIfInBounds_toArray]
        try simp only [List.set_cons_succ]
        try simp only [List.set_cons_zero]
        refine wpAnyH_take (i := 9) (v := ?_) (at_list rfl) (by kernel_rfl) (by kernel_rfl) (by kernel_rfl) (fun _ _ _ h => h) (Or.inl ⟨by rfl, ?_⟩) (by assumption) ?_
        rotate_left
        · intro w hSw; (try dsimp only at hSw); first | (go_simp; done) | (go_simp; with_reducible rfl)
        try simp only [Act.put]
        try simp only [List.setIfInBounds_toArray]
        try simp only [List.set_cons_succ]
        try simp only [List.set_cons_zero]
        refine wpAnyH_take (i := 10) (v := ?_) (at_list rfl) (by kernel_rfl) (by kernel_rfl) (by kernel_rfl) (fun _ _ _ h => h) (Or.inl ⟨by rfl, ?_⟩) (by assumption) ?_
        rotate_left
        · intro w hSw; (try dsimp only at hSw); first | (go_simp; done) | (go_simp; with_reducible rfl)
        try simp only [Act.put]
        try simp only [List.setIfInBounds_toArray]
        try simp only [List.set_cons_succ]
        try simp only [List.set_cons_zero]
        refine wpAnyH_ready (rs := [11]) (by kernel_rfl) (by simp) ?_
        refine AllReadyH.cons (at_list rfl) (fun K hK => ?_) AllReadyH.nil
        go_simp
        refine (mod_any _ _ _ (by omega) (by omega)).mono ?_; rintro e w' ⟨rfl, rfl⟩; dsimp only
        refine hK.out _ _ (hHeld) (fun hHeld => ?_)
        clear hK K
        try simp only [Act.put]
        try simp only [List.setIfInBounds_toArray]
        try simp only [List.set_cons_succ]
        try simp only [List.set_cons_zero]
        refine wpAnyH_take (i := 12) (v := ?_) (at_list rfl) (by kernel_rfl) (by kernel_rfl) (by kernel_rfl) (fun _ _ _ h => h) (Or.inl ⟨by rfl, ?_⟩) (by assumption) ?_
        rotate_left
        · intro w hSw; (try dsimp only at hSw); first | (go_simp; done) | (go_simp; with_reducible rfl)
        try simp only [Act.put]
        try simp only [List.setIfInBounds_toArray]
        try simp only [List.set_cons_succ]
        try simp only [List.set_cons_zero]
        refine wpAnyH_done (by kernel_rfl) ?_ _
        refine NoPanic.normal ?_
        have HM3 := hide ((unhide HM2).bel hHeld)
        have HW3 := hide (blk_below (unhide HW2) hHeld)
        have HB3 := hide ((unhide HB2).trans (hHeld.mono (by have := (unhide HB2).size; omega)))
        have hbx3 := hbx _ hHeld
        generalize w2.drew = w3 at *
        clear hbx2 hbx hbm hrg hHeld HM2 HW2 HB2
        generalize S.reg q % (2 * hh) = y at *
        by_cases hge : hh ≤ y
        · have HEV := hide (show extV (S.reg q) n = y - 2 * hh by rw [unhide HE, if_pos hge])
          go_wp2
          refine wp_region_noPanic ?_
          refine wp_region_held_drew (S := fun wx => (wx.heap[gm]? = some (.cells #[.slice (some ⟨g1, 0, none⟩) 8 8, .slice (some ⟨g2, 0, none⟩) 64 64, .slice (some ⟨g3, 0, none⟩) 8 8] 107 (0, 0)) ∧ wx.heap[sb]? = some (.cells #[.int .u8 88, .int .i64 q, .int .i64 b, .int .i64 k, .int .i64 n] 95 (0, 0)))) (by kernel_rfl) ⟨(unhide HM3).box, unhide HW3⟩ (fun hHeld => ?_)
          have HM4 := hide ((unhide HM3).bel (Below.refl w3.heap.size w3).drew)
          have hrc := (unhide HM4).reg hq
          have hfr := (unhide HM4).regs.frozenAt q
          have hS9 := And.intro ((unhide HM4).setReg q (y - 2 * hh)).box (blk_set_other (j := q) (.int .i64 (y - 2 * hh)) hHeld.2 hs1.symm)
          have HB9 := hide ((unhide HB3).drew.setCell (p := ⟨g1, q, none⟩) hl1 (.int .i64 (y - 2 * hh)))
          clear hbx3
          refine wpAnyH_take (i := 0) (v := ?_) (at_list rfl) (by kernel_rfl) (by kernel_rfl) (by kernel_rfl) (fun _ _ _ h => h) (Or.inl ⟨by rfl, ?_⟩) (by assumption) ?_
          rotate_left
          · intro w hSw; (try dsimp only at hSw); first | (go_simp; done) | (go_simp; with_reducible rfl)
          try simp only [Act.put]
          try simp only [List.setIfInBounds_toArray]
          try simp only [List.set_cons_succ]
          try simp only [List.set_cons_zero]
          refine wpAnyH_take (i := 1) (v := ?_) (at_list rfl) (by kernel_rfl) (by kernel_rfl) (by kernel_rfl) (fun _ _ _ h => h) (Or.inl ⟨by rfl, ?_⟩) (by assumption) ?_
          rotate_left
          · intro w hSw; (try dsimp only at hSw); first | (go_simp; done) | (go_simp; with_reducible rfl)
          try simp only [Act.put]
          try simp only [List.setIfInBounds_toArray]
          try simp only [List.set_cons_succ]
          try simp only [List.set_cons_zero]
          refine wpAnyH_take (i := 2) (v := ?_) (at_list rfl) (by kernel_rfl) (by kernel_rfl) (by kernel_rfl) (fun _ _ _ h => h) (Or.inl ⟨by rfl, ?_⟩) (by assumption) ?_
          rotate_left
          · intro w hSw; (try dsimp only at hSw); first | (go_simp; done) | (go_simp; with_reducible rfl)
          try simp only [Act.put]
          try simp only [List.setIfInBounds_toArray]
          try simp only [List.set_cons_succ]
          try simp only [List.set_cons_zero]
          refine wpAnyH_take (i := 3) (v := ?_) (at_list rfl) (by kernel_rfl) (by kernel_rfl) (by kernel_rfl) (fun _ _ _ h => h) (Or.inl ⟨by rfl, ?_⟩) (by assumption) ?_
          rotate_left
          · intro w hSw; (try dsimp only at hSw); first | (go_simp; done) | (go_simp; with_reducible rfl)
          try simp only [Act.put]
          try simp only [List.setIfInBounds_toArray]
          try simp only [List.set_cons_succ]
          try simp only [List.set_cons_zero]
          refine wpAnyH_take (i := 4) (v := ?_) (at_list rfl) (by kernel_rfl) (by kernel_rfl) (by kernel_rfl) (fun _ _ _ h => h) (Or.inl ⟨by rfl, ?_⟩) (by assumption) ?_
          rotate_left
          · intro w hSw; (try dsimp only at hSw); first | (go_simp; done) | (go_simp; with_reducible rfl)
          try simp only [Act.put]
          try simp only [List.setIfInBounds_toArray]
          try simp only [List.set_cons_succ]
          try simp only [List.set_cons_zero]
          refine wpAnyH_take (i := 5) (v := ?_) (at_list rfl) (by kernel_rfl) (by kernel_rfl) (by kernel_rfl) (fun _ _ _ h => h) (Or.inl ⟨by rfl, ?_⟩) (by assumption) ?_
          rotate_left
          · intro w hSw; (try dsimp only at hSw); first | (go_simp; done) | (go_simp; with_reducible rfl)
          try simp only [Act.put]
          try simp only [List.setIfInBounds_toArray]
          try simp only [List.set_cons_succ]
          try simp only [List.set_cons_zero]
          refine wpAnyH_take (i := 6) (v := ?_) (at_list rfl) (by kernel_rfl) (by kernel_rfl) (by kernel_rfl) (fun _ _ _ h => h) (Or.inl ⟨by rfl, ?_⟩) (by assumption) ?_
          rotate_left
          · intro w hSw; (try dsimp only at hSw); first | (go_simp; done) | (go_simp; with_reducible rfl)
          try simp only [Act.put]
          try simp only [List.setIfInBounds_toArray]
          try simp only [List.set_cons_succ]
          try simp only [List.set_cons_zero]
          refine wpAnyH_take (i := 7) (v := ?_) (at_list rfl) (by kernel_rfl) (by kernel_rfl) (by kernel_rfl) (fun _ _ _ h => h) (Or.inl ⟨by rfl, ?_⟩) (by assumption) ?_
          rotate_left
          · intro w hSw; (try dsimp only at hSw); first | (go_simp; done) | (go_simp; with_reducible rfl)
          try simp only [Act.put]
          try simp only [List.setIfInBounds_toArray]
          try simp only [List.set_cons_succ]
          try simp only [List.set_cons_zero]
          refine wpAnyH_ready (rs := [8]) (by kernel_rfl) (by simp) ?_
          refine AllReadyH.cons (at_list rfl) (fun K hK => ?_) AllReadyH.nil
          go_simp
          refine hK.out _ _ (hS9) (fun hHeld => ?_)
          clear hK K
          try simp only [Act.put]
          try simp only [List.setIfInBounds_toArray]
          try simp only [List.set_cons_succ]
          try simp only [List.set_cons_zero]
          refine wpAnyH_done (by kernel_rfl) ?_ _
          refine NoPanic.normal ?_
          clear hd hdm
          go_wp2
          go_roundw
          case rel => exact ⟨a + 1, _, by go_num, by omega, (unhide HM4).setReg q _, unhide HB9, by rw [← unhide HEV]; exact unhide HR⟩
          case measure => simp [intOf]; omega
        · have HEV := hide (show extV (S.reg q) n = y by rw [unhide HE, if_neg hge])
          go_wp2
          refine wp_region_noPanic ?_
          refine wp_region_held_drew (S := fun wx => (wx.heap[gm]? = some (.cells #[.slice (some ⟨g1, 0, none⟩) 8 8, .slice (some ⟨g2, 0, none⟩) 64 64, .slice (some ⟨g3, 0, none⟩) 8 8] 107 (0, 0)) ∧ wx.heap[sb]? = some (.cells #[.int .u8 88, .int .i64 q, .int .i64 b, .int .i64 k, .int .i64 n] 95 (0, 0)))) (by kernel_rfl) ⟨(unhide HM3).box, unhide HW3⟩ (fun hHeld => ?_)
          have HM4 := hide ((unhide HM3).bel (Below.refl w3.heap.size w3).drew)
          have hrc := (unhide HM4).reg hq
          have hfr := (unhide HM4).regs.frozenAt q
          have hS9 := And.intro ((unhide HM4).setReg q (y)).box (blk_set_other (j := q) (.int .i64 (y)) hHeld.2 hs1.symm)
          have HB9 := hide ((unhide HB3).drew.setCell (p := ⟨g1, q, none⟩) hl1 (.int .i64 (y)))
          clear hbx3
          refine wpAnyH_take (i := 0) (v := ?_) (at_list rfl) (by kernel_rfl) (by kernel_rfl) (by kernel_rfl) (fun _ _ _ h => h) (Or.inl ⟨by rfl, ?_⟩) (by assumption) ?_
          rotate_left
          · intro w hSw; (try dsimp only at hSw); first | (go_simp; done) | (go_simp; with_reducible rfl)
          try simp only [Act.put]
          try simp only [List.setIfInBounds_toArray]
          try simp only [List.set_cons_succ]
          try simp only [List.set_cons_zero]
          refine wpAnyH_take (i := 1) (v := ?_) (at_list rfl) (by kernel_rfl) (by kernel_rfl) (by kernel_rfl) (fun _ _ _ h => h) (Or.inl ⟨by rfl, ?_⟩) (by assumption) ?_
          rotate_left
          · intro w hSw; (try dsimp only at hSw); first | (go_simp; done) | (go_simp; with_reducible rfl)
          try simp only [Act.put]
          try simp only [List.setIfInBounds_toArray]
          try simp only [List.set_cons_succ]
          try simp only [List.set_cons_zero]
          refine wpAnyH_take (i := 2) (v := ?_) (at_list rfl) (by kernel_rfl) (by kernel_rfl) (by kernel_rfl) (fun _ _ _ h => h) (Or.inl ⟨by rfl, ?_⟩) (by assumption) ?_
          rotate_left
          · intro w hSw; (try dsimp only at hSw); first | (go_simp; done) | (go_simp; with_reducible rfl)
          try simp only [Act.put]
          try simp only [List.setIfInBounds_toArray]
          try simp only [List.set_cons_succ]
          try simp only [List.set_cons_zero]
          refine wpAnyH_take (i := 3) (v := ?_) (at_list rfl) (by kernel_rfl) (by kernel_rfl) (by kernel_rfl) (fun _ _ _ h => h) (Or.inl ⟨by rfl, ?_⟩) (by assumption) ?_
          rotate_left
          · intro w hSw; (try dsimp only at hSw); first | (go_simp; done) | (go_simp; with_reducible rfl)
          try simp only [Act.put]
          try simp only [List.setIfInBounds_toArray]
          try simp only [List.set_cons_succ]
          try simp only [List.set_cons_zero]
          refine wpAnyH_take (i := 4) (v := ?_) (at_list rfl) (by kernel_rfl) (by kernel_rfl) (by kernel_rfl) (fun _ _ _ h => h) (Or.inl ⟨by rfl, ?_⟩) (by assumption) ?_
          rotate_left
          · intro w hSw; (try dsimp only at hSw); first | (go_simp; done) | (go_simp; with_reducible rfl)
          try simp only [Act.put]
          try simp only [List.setIfInBounds_toArray]
          try simp only [List.set_cons_succ]
          try simp only [List.set_cons_zero]
          refine wpAnyH_take (i := 5) (v := ?_) (at_list rfl) (by kernel_rfl) (by kernel_rfl) (by kernel_rfl) (fun _ _ _ h => h) (Or.inl ⟨by rfl, ?_⟩) (by assumption) ?_
          rotate_left
          · intro w hSw; (try dsimp only at hSw); first | (go_simp; done) | (go_simp; with_reducible rfl)
          try simp only [Act.put]
          try simp only [List.setIfInBounds_toArray]
          try simp only [List.set_cons_succ]
          try simp only [List.set_cons_zero]
          refine wpAnyH_take (i := 6) (v := ?_) (at_list rfl) (by kernel_rfl) (by kernel_rfl) (by kernel_rfl) (fun _ _ _ h => h) (Or.inl ⟨by rfl, ?_⟩) (by assumption) ?_
          rotate_left
          · intro w hSw; (try dsimp only at hSw); first | (go_simp; done) | (go_simp; with_reducible rfl)
          try simp only [Act.put]
          try simp only [List.setIfInBounds_toArray]
          try simp only [List.set_cons_succ]
          try simp only [List.set_cons_zero]
          refine wpAnyH_take (i := 7) (v := ?_) (at_list rfl) (by kernel_rfl) (by kernel_rfl) (by kernel_rfl) (fun _ _ _ h => h) (Or.inl ⟨by rfl, ?_⟩) (by assumption) ?_
          rotate_left
          · intro w hSw; (try dsimp only at hSw); first | (go_simp; done) | (go_simp; with_reducible rfl)
          try simp only [Act.put]
          try simp only [List.setIfInBounds_toArray]
          try simp only [List.set_cons_succ]
          try simp only [List.set_cons_zero]
          refine wpAnyH_ready (rs := [8]) (by kernel_rfl) (by simp) ?_
          refine AllReadyH.cons (at_list rfl) (fun K hK => ?_) AllReadyH.nil
          go_simp
          refine hK.out _ _ (hS9) (fun hHeld => ?_)
          clear hK K
          try simp only [Act.put]
          try simp only [List.setIfInBounds_toArray]
          try simp only [List.set_cons_succ]
          try simp only [List.set_cons_zero]
          refine wpAnyH_done (by kernel_rfl) ?_ _
          refine NoPanic.normal ?_
          clear hd hdm
          go_wp2
          go_roundw
          case rel => exact ⟨a + 1, _, by go_num, by omega, (unhide HM4).setReg q _, unhide HB9, by rw [← unhide HEV]; exact unhide HR⟩
          case measure => simp [intOf]; omega
      · obtain ⟨n1, h32, k1⟩ := known_range (unhide HKN) rfl
        simp only at n1 h32 k1
        have hact := act_range (r := (q : Int)) (b := (b : Int)) (k := (k : Int)) (n := (n : Int)) S
        rw [Int.toNat_natCast] at hact
        have HFB := hide (show fitsB (if ((k : Int) == 1) = true then 115 else 117) n (S.reg q) = fitsB (if (k : Int) = 1 then 115 else 117) n (S.reg q) by simp)
        go_wp2
        generalize w1.alloc (.cells #[.int .u8 82, .int .i64 q, .int .i64 b, .int .i64 k, .int .i64 n] 95) = w2 at *
        generalize w1.heap.size = sb at *
        have hrg := fun (wx : World) (h : Below w2.heap.size w2 wx) => ((unhide HM2).bel h).reg hq
        have hbx := fun (wx : World) (h : Below w2.heap.size w2 wx) => blk_cell (blk_below (unhide HW2) h)
        have hbm := fun (wx : World) (h : Below w2.heap.size w2 wx) => blk_cell ((unhide HM2).bel h).box
        have hbx2 := hbx _ (Below.refl _ _)
        refine wp_region_noPanic ?_
        refine wp_region_held_drew (S := fun wx => Below w2.heap.size w2 wx) (by kernel_rfl) (Below.refl _ _).drew (fun hHeld => ?_)
        refine wpAnyH_take (i := 0) (v := ?_) (at_list rfl) (by kernel_rfl) (by kernel_rfl) (by kernel_rfl) (fun _ _ _ h => h) (Or.inl ⟨by rfl, ?_⟩) (by assumption) ?_
        rotate_left
        · intro w hSw; (try dsimp only at hSw); first | (go_simp; done) | (go_simp; with_reducible rfl)
        try simp only [Act.put]
        try simp only [List.setIfInBounds_toArray]
        try simp only [List.set_cons_succ]
        try simp only [List.set_cons_zero]
        refine wpAnyH_take (i := 1) (v := ?_) (at_list rfl) (by kernel_rfl) (by kernel_rfl) (by kernel_rfl) (fun _ _ _ h => h) (Or.inl ⟨by rfl, ?_⟩) (by assumption) ?_
        rotate_left
        · intro w hSw; (try dsimp only at hSw); first | (go_simp; done) | (go_simp; with_reducible rfl)
        try simp only [Act.put]
        try simp only [List.setIfInBounds_toArray]
        try simp only [List.set_cons_succ]
        try simp only [List.set_cons_zero]
        refine wpAnyH_take (i := 2) (v := ?_) (at_list rfl) (by kernel_rfl) (by kernel_rfl) (by kernel_rfl) (fun _ _ _ h => h) (Or.inl ⟨by rfl, ?_⟩) (by assumption) ?_
        rotate_left
        · intro w hSw; (try dsimp only at hSw); first | (go_simp; done) | (go_simp; with_reducible rfl)
        try simp only [Act.put]
        try simp only [List.setIfInBounds_toArray]
        try simp only [List.set_cons_succ]
        try simp only [List.set_cons_zero]
        refine wpAnyH_take (i := 3) (v := ?_) (at_list rfl) (by kernel_rfl) (by kernel_rfl) (by kernel_rfl) (fun _ _ _ h => h) (Or.inl ⟨by rfl, ?_⟩) (by assumption) ?_
        rotate_left
        · intro w hSw; (try dsimp only at hSw); first | (go_simp; done) | (go_simp; with_reducible rfl)
        try simp only [Act.put]
        try simp only [List.setIfInBounds_toArray]
        try simp only [List.set_cons_succ]
        try simp only [List.set_cons_zero]
        refine wpAnyH_take (i := 4) (v := ?_) (at_list rfl) (by kernel_rfl) (by kernel_rfl) (by kernel_rfl) (fun _ _ _ h => h) (Or.inl ⟨by rfl, ?_⟩) (by assumption) ?_
        rotate_left
        · intro w hSw; (try dsimp only at hSw); first | (go_simp; done) | (go_simp; with_reducible rfl)
        try simp only [Act.put]
        try simp only [List.setIfInBounds_toArray]
        try simp only [List.set_cons_succ]
        try simp only [List.set_cons_zero]
        refine wpAnyH_take (i := 5) (v := ?_) (at_list rfl) (by kernel_rfl) (by kernel_rfl) (by kernel_rfl) (fun _ _ _ h => h) (Or.inl ⟨by rfl, ?_⟩) (by assumption) ?_
        rotate_left
        · intro w hSw; (try dsimp only at hSw); first | (go_simp; done) | (go_simp; with_reducible rfl)
        try simp only [Act.put]
        try simp only [List.setIfInBounds_toArray]
        try simp only [List.set_cons_succ]
        try simp only [List.set_cons_zero]
        refine wpAnyH_take (i := 6) (v := ?_) (at_list rfl) (by kernel_rfl) (by kernel_rfl) (by kernel_rfl) (fun _ _ _ h => h) (Or.inl ⟨by rfl, ?_⟩) (by assumption) ?_
        rotate_left
        · intro w hSw; (try dsimp only at hSw); first | (go_simp; done) | (go_simp; with_reducible rfl)
        try simp only [Act.put]
        try simp only [List.setIfInBounds_toArray]
        try simp only [List.set_cons_succ]
        try simp only [List.set_cons_zero]
        refine wpAnyH_take (i := 7) (v := ?_) (at_list rfl) (by kernel_rfl) (by kernel_rfl) (by kernel_rfl) (fun _ _ _ h => h) (Or.inl ⟨by rfl, ?_⟩) (by assumption) ?_
        rotate_left
        · intro w hSw; (try dsimp only at hSw); first | (go_simp; done) | (go_simp; with_reducible rfl)
        try simp only [Act.put]
        try simp only [List.setIfInBounds_toArray]
        try simp only [List.set_cons_succ]
        try simp only [List.set_cons_zero]
        refine wpAnyH_take (i := 8) (v := ?_) (at_list rfl) (by kernel_rfl) (by kernel_rfl) (by kernel_rfl) (fun _ _ _ h => h) (Or.inl ⟨by rfl, ?_⟩) (by assumption) ?_
        rotate_left
        · intro w hSw; (try dsimp only at hSw); first | (go_simp; done) | (go_simp; with_reducible rfl)
        try simp only [Act.put]
        try simp only [List.setIfInBounds_toArray]
        try simp only [List.set_cons_succ]
        try simp only [List.set_cons_zero]
        refine wpAnyH_take (i := 9) (v := ?_) (at_list rfl) (by kernel_rfl) (by kernel_rfl) (by kernel_rfl) (fun _ _ _ h => h) (Or.inl ⟨by rfl, ?_⟩) (by assumption) ?_
        rotate_left
        · intro w hSw; (try dsimp only at hSw); first | (go_simp; done) | (go_simp; with_reducible rfl)
        try simp only [Act.put]
        try simp only [List.setIfInBounds_toArray]
        try simp only [List.set_cons_succ]
        try simp only [List.set_cons_zero]
        refine wpAnyH_take (i := 10) (v := ?_) (at_list rfl) (by kernel_rfl) (by kernel_rfl) (by kernel_rfl) (fun _ _ _ h => h) (Or.inl ⟨by rfl, ?_⟩) (by assumption) ?_
        rotate_left
        · intro w hSw; (try dsimp only at hSw); first | (go_simp; done) | (go_simp; with_reducible rfl)
        try simp only [Act.put]
        try simp only [List.setIfInBounds_toArray]
        try simp only [List.set_cons_succ]
        try simp only [List.set_cons_zero]
        refine wpAnyH_take (i := 11) (v := ?_) (at_list rfl) (by kernel_rfl) (by kernel_rfl) (by kernel_rfl) (fun _ _ _ h => h) (Or.inl ⟨by rfl, ?_⟩) (by assumption) ?_
        rotate_left
        · intro w hSw; (try dsimp only at hSw); first | (go_simp; done) | (go_simp; with_reducible rfl)
        try simp only [Act.put]
        try simp only [List.setIfInBounds_toArray]
        try simp only [List.set_cons_succ]
        try simp only [List.set_cons_zero]
        refine wpAnyH_take (i := 12) (v := ?_) (at_list rfl) (by kernel_rfl) (by kernel_rfl) (by kernel_rfl) (fun _ _ _ h => h) (Or.inl ⟨by rfl, ?_⟩) (by assumption) ?_
        rotate_left
        · intro w hSw; (try dsimp only at hSw); first | (go_simp; done) | (go_simp; with_reducible rfl)
        try simp only [Act.put]
        try simp only [List.setIfInBounds_toArray]
        try simp only [List.set_cons_succ]
        try simp only [List.set_cons_zero]
        refine wpAnyH_ready (rs := [13]) (by kernel_rfl) (by simp) ?_
        refine AllReadyH.cons (at_list rfl) (fun K hK => ?_) AllReadyH.nil
        go_simp
        refine (rFitsB_any _ _ _ _ n1 h32).mono ?_; rintro e w' ⟨rfl, rfl⟩; dsimp only
        refine hK.out _ _ (hHeld) (fun hHeld => ?_)
        clear hK K
        try simp only [Act.put]
        try simp only [List.setIfInBounds_toArray]
        try simp only [List.set_cons_succ]
        try simp only [List.set_cons_zero]
        refine wpAnyH_take (i := 14) (v := ?_) (at_list rfl) (by kernel_rfl) (by kernel_rfl) (by kernel_rfl) (fun _ _ _ h => h) (Or.inl ⟨by rfl, ?_⟩) (by assumption) ?_
        rotate_left
        · intro w hSw; (try dsimp only at hSw); first | (go_simp; done) | (go_simp; with_reducible rfl)
        try simp only [Act.put]
        try simp only [List.setIfInBounds_toArray]
        try simp only [List.set_cons_succ]
        try simp only [List.set_cons_zero]
        refine wpAnyH_done (by kernel_rfl) ?_ _
        refine NoPanic.normal ?_
        rw [unhide HFB]
        have HM3 := hide ((unhide HM2).bel hHeld)
        have HW3 := hide (blk_below (unhide HW2) hHeld)
        have HB3 := hide ((unhide HB2).trans (hHeld.mono (by have := (unhide HB2).size; omega)))
        generalize w2.drew = w3 at *
        clear hbx2 hbx hbm hrg hHeld HM2 HW2 HB2
        cases hfit : fitsB (if (k : Int) = 1 then 115 else 117) n (S.reg q) with
        | true =>
          have HR := hide (show runL (L.drop (a + 1)) S = runL L s by have := unhide HRUN; rw [hact, hfit] at this; simpa using this)
          clear hact hfit hd hdm
          go_wp2
          go_roundw
          case rel => exact ⟨a + 1, S, by go_num, by omega, unhide HM3, unhide HB3, unhide HR⟩
          case measure => simp [intOf]; omega
        | false =>
          have HR := hide (show (S, (9 : Int), (q : Int)) = runL L s by have := unhide HRUN; rw [hact, hfit] at this; simpa using this)
          clear hact hfit
          go_wp2
          refine wp_region_noPanic ?_
          refine wp_region_held_drew (S := fun wx => (wx.heap[gm]? = some (.cells #[.slice (some ⟨g1, 0, none⟩) 8 8, .slice (some ⟨g2, 0, none⟩) 64 64, .slice (some ⟨g3, 0, none⟩) 8 8] 107 (0, 0)) ∧ wx.heap[sb]? = some (.cells #[.int .u8 82, .int .i64 q, .int .i64 b, .int .i64 k, .int .i64 n] 95 (0, 0)))) (by kernel_rfl) ⟨(unhide HM3).box, unhide HW3⟩ (fun hHeld => ?_)
          have HM4 := hide ((unhide HM3).bel (Below.refl w3.heap.size w3).drew)
          have HB4 := hide (unhide HB3).drew
          refine wpAnyH_take (i := 0) (v := ?_) (at_list rfl) (by kernel_rfl) (by kernel_rfl) (by kernel_rfl) (fun _ _ _ h => h) (Or.inl ⟨by rfl, ?_⟩) (by assumption) ?_
          rotate_left
          · intro w hSw; (try dsimp only at hSw); first | (go_simp; done) | (go_simp; with_reducible rfl)
          try simp only [Act.put]
          try simp only [List.setIfInBounds_toArray]
          try simp only [List.set_cons_succ]
          try simp only [List.set_cons_zero]
          refine wpAnyH_take (i := 1) (v := ?_) (at_list rfl) (by kernel_rfl) (by kernel_rfl) (by kernel_rfl) (fun _ _ _ h => h) (Or.inl ⟨by rfl, ?_⟩) (by assumption) ?_
          rotate_left
          · intro w hSw; (try dsimp only at hSw); first | (go_simp; done) | (go_simp; with_reducible rfl)
          try simp only [Act.put]
          try simp only [List.setIfInBounds_toArray]
          try simp only [List.set_cons_succ]
          try simp only [List.set_cons_zero]
          refine wpAnyH_take (i := 2) (v := ?_) (at_list rfl) (by kernel_rfl) (by kernel_rfl) (by kernel_rfl) (fun _ _ _ h => h) (Or.inl ⟨by rfl, ?_⟩) (by assumption) ?_
          rotate_left
          · intro w hSw; (try dsimp only at hSw); first | (go_simp; done) | (go_simp; with_reducible rfl)
          try simp only [Act.put]
          try simp only [List.setIfInBounds_toArray]
          try simp only [List.set_cons_succ]
          try simp only [List.set_cons_zero]
          refine wpAnyH_take (i := 3) (v := ?_) (at_list rfl) (by kernel_rfl) (by kernel_rfl) (by kernel_rfl) (fun _ _ _ h => h) (Or.inl ⟨by rfl, ?_⟩) (by assumption) ?_
          rotate_left
          · intro w hSw; (try dsimp only at hSw); first | (go_simp; done) | (go_simp; with_reducible rfl)
          try simp only [Act.put]
          try simp only [List.setIfInBounds_toArray]
          try simp only [List.set_cons_succ]
          try simp only [List.set_cons_zero]
          refine wpAnyH_done (by kernel_rfl) ?_ _
          refine NoPanic.normal ?_
          clear hd hdm
          go_wp2
          go_ret2
          exact ⟨by rw [← unhide HR]; rfl, by rw [← unhide HR]; exact unhide HM4, unhide HB4⟩
      · obtain ⟨n1, hnl⟩ := known_jump (unhide HKN) rfl
        simp only at n1 hnl
        have hact := act_jump (r := (q : Int)) (b := (b : Int)) (k := (k : Int)) (n := (n : Int)) S
        rw [Int.toNat_natCast, Int.toNat_natCast] at hact
        go_wp2
        generalize w1.alloc (.cells #[.int .u8 74, .int .i64 q, .int .i64 b, .int .i64 k, .int .i64 n] 95) = w2 at *
        generalize w1.heap.size = sb at *
        have hrg := fun (wx : World) (h : Below w2.heap.size w2 wx) => ((unhide HM2).bel h).reg hq
        have hbx := fun (wx : World) (h : Below w2.heap.size w2 wx) => blk_cell (blk_below (unhide HW2) h)
        have hbm := fun (wx : World) (h : Below w2.heap.size w2 wx) => blk_cell ((unhide HM2).bel h).box
        have hbx2 := hbx _ (Below.refl _ _)
        refine wp_region_noPanic ?_
        refine wp_region_held_drew (S := fun wx => Below w2.heap.size w2 wx) (by kernel_rfl) (Below.refl _ _).drew (fun hHeld => ?_)
        refine wpAnyH_take (i := 0) (v := ?_) (at_list rfl) (by kernel_rfl) (by kernel_rfl) (by kernel_rfl) (fun _ _ _ h => h) (Or.inl ⟨by rfl, ?_⟩) (by assumption) ?_
        rotate_left
        · intro w hSw; (try dsimp only at hSw); first | (go_simp; done) | (go_simp; with_reducible rfl)
        try simp only [Act.put]
        try simp only [List.setIfInBounds_toArray]
        try simp only [List.set_cons_succ]
        try simp only [List.set_cons_zero]
        refine wpAnyH_take (i := 1) (v := ?_) (at_list rfl) (by kernel_rfl) (by kernel_rfl) (by kernel_rfl) (fun _ _ _ h => h) (Or.inl ⟨by rfl, ?_⟩) (by assumption) ?_
        rotate_left
        · intro w hSw; (try dsimp only at hSw); first | (go_simp; done) | (go_simp; with_reducible rfl)
        try simp only [Act.put]
        try simp only [List.setIfInBounds_toArray]
        try simp only [List.set_cons_succ]
        try simp only [List.set_cons_zero]
        refine wpAnyH_take (i := 2) (v := ?_) (at_list rfl) (by kernel_rfl) (by kernel_rfl) (by kernel_rfl) (fun _ _ _ h => h) (Or.inl ⟨by rfl, ?_⟩) (by assumption) ?_
        rotate_left
        · intro w hSw; (try dsimp only at hSw); first | (go_simp; done) | (go_simp; with_reducible rfl)
        try simp only [Act.put]
        try simp only [List.setIfInBounds_toArray]
        try simp only [List.set_cons_succ]
        try simp only [List.set_cons_zero]
        refine wpAnyH_take (i := 3) (v := ?_) (at_list rfl) (by kernel_rfl) (by kernel_rfl) (by kernel_rfl) (fun _ _ _ h => h) (Or.inl ⟨by rfl, ?_⟩) (by assumption) ?_
        rotate_left
        · intro w hSw; (try dsimp only at hSw); first | (go_simp; done) | (go_simp; with_reducible rfl)
        try simp only [Act.put]
        try simp only [List.setIfInBounds_toArray]
        try simp only [List.set_cons_succ]
        try simp only [List.set_cons_zero]
        refine wpAnyH_take (i := 4) (v := ?_) (at_list rfl) (by kernel_rfl) (by kernel_rfl) (by kernel_rfl) (fun _ _ _ h => h) (Or.inl ⟨by rfl, ?_⟩) (by assumption) ?_
        rotate_left
        · intro w hSw; (try dsimp only at hSw); first | (go_simp; done) | (go_simp; with_reducible rfl)
        try simp only [Act.put]
        try simp only [List.setIfInBounds_toArray]
        try simp only [List.set_cons_succ]
        try simp only [List.set_cons_zero]
        refine wpAnyH_take (i := 5) (v := ?_) (at_list rfl) (by kernel_rfl) (by kernel_rfl) (by kernel_rfl) (fun _ _ _ h => h) (Or.inl ⟨by rfl, ?_⟩) (by assumption) ?_
        rotate_left
        · intro w hSw; (try dsimp only at hSw); first | (go_simp; done) | (go_simp; with_reducible rfl)
        try simp only [Act.put]
        try simp only [List.setIfInBounds_toArray]
        try simp only [List.set_cons_succ]
        try simp only [List.set_cons_zero]
        refine wpAnyH_take (i := 6) (v := ?_) (at_list rfl) (by kernel_rfl) (by kernel_rfl) (by kernel_rfl) (fun _ _ _ h => h) (Or.inl ⟨by rfl, ?_⟩) (by assumption) ?_
        rotate_left
        · intro w hSw; (try dsimp only at hSw); first | (go_simp; done) | (go_simp; with_reducible rfl)
        try simp only [Act.put]
        try simp only [List.setIfInBounds_toArray]
        try simp only [List.set_cons_succ]
        try simp only [List.set_cons_zero]
        refine wpAnyH_take (i := 7) (v := ?_) (at_list rfl) (by kernel_rfl) (by kernel_rfl) (by kernel_rfl) (fun _ _ _ h => h) (Or.inl ⟨by rfl, ?_⟩) (by assumption) ?_
        rotate_left
        · intro w hSw; (try dsimp only at hSw); first | (go_simp; done) | (go_simp; with_reducible rfl)
        try simp only [Act.put]
        try simp only [List.setIfInBounds_toArray]
        try simp only [List.set_cons_succ]
        try simp only [List.set_cons_zero]
        refine wpAnyH_take (i := 8) (v := ?_) (at_list rfl) (by kernel_rfl) (by kernel_rfl) (by kernel_rfl) (fun _ _ _ h => h) (Or.inl ⟨by rfl, ?_⟩) (by assumption) ?_
        rotate_left
        · intro w hSw; (try dsimp only at hSw); first | (go_simp; done) | (go_simp; with_reducible rfl)
        try simp only [Act.put]
        try simp only [List.setIfInBounds_toArray]
        try simp only [List.set_cons_succ]
        try simp only [List.set_cons_zero]
        refine wpAnyH_take (i := 9) (v := ?_) (at_list rfl) (by kernel_rfl) (by kernel_rfl) (by kernel_rfl) (fun _ _ _ h => h) (Or.inl ⟨by rfl, ?_⟩) (by assumption) ?_
        rotate_left
        · intro w hSw; (try dsimp only at hSw); first | (go_simp; done) | (go_simp; with_reducible rfl)
        try simp only [Act.put]
        try simp only [List.setIfInBounds_toArray]
        try simp only [List.set_cons_succ]
        try simp only [List.set_cons_zero]
        refine wpAnyH_take (i := 10) (v := ?_) (at_list rfl) (by kernel_rfl) (by kernel_rfl) (by kernel_rfl) (fun _ _ _ h => h) (Or.inl ⟨by rfl, ?_⟩) (by assumption) ?_
        rotate_left
        · intro w hSw; (try dsimp only at hSw); first | (go_simp; done) | (go_simp; with_reducible rfl)
        try simp only [Act.put]
        try simp only [List.setIfInBounds_toArray]
        try simp only [List.set_cons_succ]
        try simp only [List.set_cons_zero]
        refine wpAnyH_done (by kernel_rfl) ?_ _
        refine NoPanic.normal ?_
        have HM3 := hide ((unhide HM2).bel hHeld)
        have HB3 := hide ((unhide HB2).trans (hHeld.mono (by have := (unhide HB2).size; omega)))
        have hbx3 := hbx _ hHeld
        generalize w2.drew = w3 at *
        clear hbx2 hbx hbm hrg hHeld HM2 HW2 HB2 hd hdm
        by_cases hjb : S.reg q = (b : Int)
        · have HR := hide (show runL (L.drop (a + 1)) S = runL L s by have := unhide HRUN; rw [hact, if_pos hjb] at this; simpa using this)
          have hne : (S.reg q != (b : Int)) = false := by simp [hjb]
          clear hact hjb
          go_wp2
          go_roundw
          case rel => exact ⟨a + 1, S, by go_num, by omega, unhide HM3, unhide HB3, unhide HR⟩
          case measure => simp [intOf]; omega
        · have HR := hide (show runL (L.drop (a + n + 1)) S = runL L s by have := unhide HRUN; rw [hact, if_neg hjb] at this; simpa [List.drop_drop, Nat.add_comm, Nat.add_left_comm, Nat.add_assoc] using this)
          have hne : (S.reg q != (b : Int)) = true := by simp [hjb]
          clear hact hjb
          go_wp2
          go_roundw
          case rel => exact ⟨a + n + 1, S, by go_num, by omega, unhide HM3, unhide HB3, unhide HR⟩
          case measure => simp [intOf]; omega
      · have HR := hide (show runL (L.drop (a + 1)) { S with mark := upd S.mark q true } = runL L s by have := unhide HRUN; rw [act_mark] at this; simpa using this)
        go_wp2
        generalize w1.alloc (.cells #[.int .u8 65, .int .i64 q, .int .i64 b, .int .i64 k, .int .i64 n] 95) = w2 at *
        generalize w1.heap.size = sb at *
        have hrg := fun (wx : World) (h : Below w2.heap.size w2 wx) => ((unhide HM2).bel h).reg hq
        have hbx := fun (wx : World) (h : Below w2.heap.size w2 wx) => blk_cell (blk_below (unhide HW2) h)
        have hbm := fun (wx : World) (h : Below w2.heap.size w2 wx) => blk_cell ((unhide HM2).bel h).box
        have hbx2 := hbx _ (Below.refl _ _)
        refine wp_region_noPanic ?_
        refine wp_region_held_drew (S := fun wx => (wx.heap[gm]? = some (.cells #[.slice (some ⟨g1, 0, none⟩) 8 8, .slice (some ⟨g2, 0, none⟩) 64 64, .slice (some ⟨g3, 0, none⟩) 8 8] 107 (0, 0)) ∧ wx.heap[sb]? = some (.cells #[.int .u8 65, .int .i64 q, .int .i64 b, .int .i64 k, .int .i64 n] 95 (0, 0)))) (by kernel_rfl) ⟨(unhide HM2).box, unhide HW2⟩ (fun hHeld => ?_)
        have HM3 := hide ((unhide HM2).bel (Below.refl w2.heap.size w2).drew)
        have hrc := (unhide HM3).mark hq
        have hfr := (unhide HM3).marks.frozenAt q
        have hS9 := And.intro ((unhide HM3).setMark q).box (blk_set_other (j := q) (.bool true) hHeld.2 hs3.symm)
        have HB9 := hide ((unhide HB2).drew.setCell (p := ⟨g3, q, none⟩) hl3 (.bool true))
        clear hbx2 hbx hbm hrg
        refine wpAnyH_take (i := 0) (v := ?_) (at_list rfl) (by kernel_rfl) (by kernel_rfl) (by kernel_rfl) (fun _ _ _ h => h) (Or.inl ⟨by rfl, ?_⟩) (by assumption) ?_
        rotate_left
        · intro w hSw; (try dsimp only at hSw); first | (go_simp; done) | (go_simp; with_reducible rfl)
        try simp only [Act.put]
        try simp only [List.setIfInBounds_toArray]
        try simp only [List.set_cons_succ]
        try simp only [List.set_cons_zero]
        refine wpAnyH_take (i := 1) (v := ?_) (at_list rfl) (by kernel_rfl) (by kernel_rfl) (by kernel_rfl) (fun _ _ _ h => h) (Or.inl ⟨by rfl, ?_⟩) (by assumption) ?_
        rotate_left
        · intro w hSw; (try dsimp only at hSw); first | (go_simp; done) | (go_simp; with_reducible rfl)
        try simp only [Act.put]
        try simp only [List.setIfInBounds_toArray]
        try simp only [List.set_cons_succ]
        try simp only [List.set_cons_zero]
        refine wpAnyH_take (i := 2) (v := ?_) (at_list rfl) (by kernel_rfl) (by kernel_rfl) (by kernel_rfl) (fun _ _ _ h => h) (Or.inl ⟨by rfl, ?_⟩) (by assumption) ?_
        rotate_left
        · intro w hSw; (try dsimp only at hSw); first | (go_simp; done) | (go_simp; with_reducible rfl)
        try simp only [Act.put]
        try simp only [List.setIfInBounds_toArray]
        try simp only [List.set_cons_succ]
        try simp only [List.set_cons_zero]
        refine wpAnyH_take (i := 3) (v := ?_) (at_list rfl) (by kernel_rfl) (by kernel_rfl) (by kernel_rfl) (fun _ _ _ h => h) (Or.inl ⟨by rfl, ?_⟩) (by assumption) ?_
        rotate_left
        · intro w hSw; (try dsimp only at hSw); first | (go_simp; done) | (go_simp; with_reducible rfl)
        try simp only [Act.put]
        try simp only [List.setIfInBounds_toArray]
        try simp only [List.set_cons_succ]
        try simp only [List.set_cons_zero]
        refine wpAnyH_take (i := 4) (v := ?_) (at_list rfl) (by kernel_rfl) (by kernel_rfl) (by kernel_rfl) (fun _ _ _ h => h) (Or.inl ⟨by rfl, ?_⟩) (by assumption) ?_
        rotate_left
        · intro w hSw; (try dsimp only at hSw); first | (go_simp; done) | (go_simp; with_reducible rfl)
        try simp only [Act.put]
        try simp only [List.setIfInBounds_toArray]
        try simp only [List.set_cons_succ]
        try simp only [List.set_cons_zero]
        refine wpAnyH_take (i := 5) (v := ?_) (at_list rfl) (by kernel_rfl) (by kernel_rfl) (by kernel_rfl) (fun _ _ _ h => h) (Or.inl ⟨by rfl, ?_⟩) (by assumption) ?_
        rotate_left
        · intro w hSw; (try dsimp only at hSw); first | (go_simp; done) | (go_simp; with_reducible rfl)
        try simp only [Act.put]
        try simp only [List.setIfInBounds_toArray]
        try simp only [List.set_cons_succ]
        try simp only [List.set_cons_zero]
        refine wpAnyH_take (i := 6) (v := ?_) (at_list rfl) (by kernel_rfl) (by kernel_rfl) (by kernel_rfl) (fun _ _ _ h => h) (Or.inl ⟨by rfl, ?_⟩) (by assumption) ?_
        rotate_left
        · intro w hSw; (try dsimp only at hSw); first | (go_simp; done) | (go_simp; with_reducible rfl)
        try simp only [Act.put]
        try simp only [List.setIfInBounds_toArray]
        try simp only [List.set_cons_succ]
        try simp only [List.set_cons_zero]
        refine wpAnyH_ready (rs := [7]) (by kernel_rfl) (by simp) ?_
        refine AllReadyH.cons (at_list rfl) (fun K hK => ?_) AllReadyH.nil
        go_simp
        refine hK.out _ _ (hS9) (fun hHeld => ?_)
        clear hK K
        try simp only [Act.put]
        try simp only [List.setIfInBounds_toArray]
        try simp only [List.set_cons_succ]
        try simp only [List.set_cons_zero]
        refine wpAnyH_done (by kernel_rfl) ?_ _
        refine NoPanic.normal ?_
        clear hd hdm
        go_wp2
        go_roundw
        case rel => exact ⟨a + 1, _, by go_num, by omega, (unhide HM3).setMark q, unhide HB9, unhide HR⟩
        case measure => simp [intOf]; omega
    · have HR := hide (show (S, (0 : Int), (0 : Int)) = runL L s by rw [← unhide HRUN, List.drop_of_length_le (by omega), runL_nil])
      have hge : ¬ (a : Int) < (L.length : Int) := by omega
      go_wp2
      go_ret2
      exact ⟨by rw [← unhide HR]; rfl, by rw [← unhide HR]; exact unhide HMA, unhide HBW⟩

end Go.Proofs.Ytoihlnjcgopdlaa

namespace Go.Proofs.Ytoihlnjcgopdlaa
open Go.RowKit

theorem Try.mk8 (w : World) : (Instr.makeSlice 29 (.int .i64 8) (.int .i64 8)).run Try.prog w = .ok (.slice (some ⟨w.heap.size, 0, none⟩) 8 8) (w.alloc (.cells (List.replicate 8 (Value.int .i64 0)).toArray 3)) := by kernel_rfl
theorem Try.mk64 (w : World) : (Instr.makeSlice 29 (.int .i64 64) (.int .i64 64)).run Try.prog w = .ok (.slice (some ⟨w.heap.size, 0, none⟩) 64 64) (w.alloc (.cells (List.replicate 64 (Value.int .i64 0)).toArray 3)) := by kernel_rfl
theorem Try.mkb8 (w : World) : (Instr.makeSlice 105 (.int .i64 8) (.int .i64 8)).run Try.prog w = .ok (.slice (some ⟨w.heap.size, 0, none⟩) 8 8) (w.alloc (.cells (List.replicate 8 (Value.bool false)).toArray 4)) := by kernel_rfl

theorem rm_new {w : World} {B gm g1 g2 g3 : Nat} (hm : w.heap[gm]? = some (.cells #[.slice (some ⟨g1, 0, none⟩) 8 8, .slice (some ⟨g2, 0, none⟩) 64 64, .slice (some ⟨g3, 0, none⟩) 8 8] 107 (0, 0)))
    (h1 : w.heap[g1]? = some (.cells (List.replicate 8 (Value.int .i64 0)).toArray 3 (0, 0))) (h2 : w.heap[g2]? = some (.cells (List.replicate 64 (Value.int .i64 0)).toArray 3 (0, 0))) (h3 : w.heap[g3]? = some (.cells (List.replicate 8 (Value.bool false)).toArray 4 (0, 0)))
    (b1 : B ≤ g1) (b2 : B ≤ g2) (b3 : B ≤ g3) (nm1 : gm ≠ g1) (nm2 : gm ≠ g2) (nm3 : gm ≠ g3) (n12 : g1 ≠ g2) (n13 : g1 ≠ g3) (n23 : g2 ≠ g3) : RM w B gm g1 g2 g3 (stN 0) := by
  refine ⟨hm, ⟨rfl, .inr ⟨_, 8, _, rfl, b1, h1, Nat.le_refl _, by simp [maxLen], rfl, ?_⟩⟩, ⟨rfl, .inr ⟨_, 64, _, rfl, b2, h2, Nat.le_refl _, by simp [maxLen], rfl, ?_⟩⟩, ⟨rfl, .inr ⟨_, 8, _, rfl, b3, h3, Nat.le_refl _, by simp [maxLen], rfl, ?_⟩⟩, nm1, nm2, nm3, n12, n13, n23⟩
  · simp [regsM, stN, List.range_succ]
  · simp [bitsM, stN, bitN, List.range_succ]
  · simp [marksM, stN, List.range_succ]
theorem four {w : World} (o0 o1 o2 o3 : Obj) : ((((w.alloc o0).alloc o1).alloc o2).alloc o3).heap[w.heap.size]? = some o0 ∧ ((((w.alloc o0).alloc o1).alloc o2).alloc o3).heap[w.heap.size + 1]? = some o1 ∧ ((((w.alloc o0).alloc o1).alloc o2).alloc o3).heap[w.heap.size + 2]? = some o2 ∧ ((((w.alloc o0).alloc o1).alloc o2).alloc o3).heap[w.heap.size + 3]? = some o3 := by
  refine ⟨blk_alloc (blk_alloc (blk_alloc (blk_new _ _))), blk_alloc (blk_alloc (new_two _ _ _)), ?_, ?_⟩
  · have := new_two (w.alloc o0) o1 o2
    rw [World.size_alloc] at this
    exact blk_alloc this
  · have := new_two ((w.alloc o0).alloc o1) o2 o3
    rw [World.size_alloc, World.size_alloc] at this
    exact this

set_option maxRecDepth 100000 in
set_option maxHeartbeats 2000000 in
theorem fresh_any (w : World) :
    Calls Try.prog 57 #[] w fun e w' => ∃ gm g1 g2 g3, e = .returned (.pointer (some ⟨gm, 0, none⟩)) ∧ RM w' w.heap.size gm g1 g2 g3 (stN 0) ∧ Below w.heap.size w w' := by
  have m1 := Try.mk8
  have m2 := Try.mk64
  have m3 := Try.mkb8
  go_enter Try.func57, Try.ntmps57
  go_wp2
  refine wp_region_noPanic ?_
  refine wp_region_held_drew (S := fun _ => True) (by kernel_rfl) trivial (fun hHeld => ?_)
  refine wpAnyH_ready (rs := [0, 1, 2]) (by kernel_rfl) (by simp) ?_
  refine AllReadyH.cons (at_list rfl) (fun K hK => ?_) (AllReadyH.cons (at_list rfl) (fun K hK => ?_) (AllReadyH.cons (at_list rfl) (fun K hK => ?_) AllReadyH.nil))
  · go_simp
    refine hK.out _ _ trivial (fun hHeld => ?_)
    clear hK K
    try simp only [Act.put]
    try simp only [List.setIfInBounds_toArray]
    try simp only [List.set_cons_succ]
    try simp only [List.set_cons_zero]
    refine wpAnyH_ready (rs := [1, 2]) (by kernel_rfl) (by simp) ?_
    refine AllReadyH.cons (at_list rfl) (fun K hK => ?_) (AllReadyH.cons (at_list rfl) (fun K hK => ?_) AllReadyH.nil)
    · go_simp
      refine hK.out _ _ trivial (fun hHeld => ?_)
      clear hK K
      try simp only [Act.put]
      try simp only [List.setIfInBounds_toArray]
      try simp only [List.set_cons_succ]
      try simp only [List.set_cons_zero]
      refine wpAnyH_ready (rs := [2]) (by kernel_rfl) (by simp) ?_
      refine AllReadyH.cons (at_list rfl) (fun K hK => ?_) AllReadyH.nil
      go_simp
      refine hK.out _ _ trivial (fun hHeld => ?_)
      clear hK K
      try simp only [Act.put]
      try simp only [List.setIfInBounds_toArray]
      try simp only [List.set_cons_succ]
      try simp only [List.set_cons_zero]
      refine wpAnyH_take (i := 3) (v := ?_) (at_list rfl) (by kernel_rfl) (by kernel_rfl) (by kernel_rfl) (fun _ _ _ h => h) (Or.inl ⟨by rfl, ?_⟩) (by assumption) ?_
      rotate_left
      · intro w hSw; (try dsimp only at hSw); first | (go_simp; done) | (go_simp; with_reducible rfl)
      try simp only [Act.put]
      try simp only [List.setIfInBounds_toArray]
      try simp only [List.set_cons_succ]
      try simp only [List.set_cons_zero]
      refine wpAnyH_ready (rs := [4]) (by kernel_rfl) (by simp) ?_
      refine AllReadyH.cons (at_list rfl) (fun K hK => ?_) AllReadyH.nil
      go_simp
      refine hK.out _ _ (trivial) (fun hHeld => ?_)
      clear hK K
      try simp only [Act.put]
      try simp only [List.setIfInBounds_toArray]
      try simp only [List.set_cons_succ]
      try simp only [List.set_cons_zero]
      refine wpAnyH_take (i := 5) (v := ?_) (at_list rfl) (by kernel_rfl) (by kernel_rfl) (by kernel_rfl) (fun _ _ _ h => h) (Or.inl ⟨by rfl, ?_⟩) (by assumption) ?_
      rotate_left
      · intro w hSw; (try dsimp only at hSw); first | (go_simp; done) | (go_simp; with_reducible rfl)
      try simp only [Act.put]
      try simp only [List.setIfInBounds_toArray]
      try simp only [List.set_cons_succ]
      try simp only [List.set_cons_zero]
      refine wpAnyH_done (by kernel_rfl) ?_ _
      refine NoPanic.normal ?_
      go_wp2
      go_ret
      exact ⟨_, _, _, _, rfl, rm_new (four (w := w.drew) _ _ _ _).2.2.2 (four (w := w.drew) _ _ _ _).1 (four (w := w.drew) _ _ _ _).2.1 (four (w := w.drew) _ _ _ _).2.2.1 (by first | omega | (simp; done) | (simp; omega)) (by first | omega | (simp; done) | (simp; omega)) (by first | omega | (simp; done) | (simp; omega)) (by first | omega | (simp; done) | (simp; omega)) (by first | omega | (simp; done) | (simp; omega)) (by first | omega | (simp; done) | (simp; omega)) (by first | omega | (simp; done) | (simp; omega)) (by first | omega | (simp; done) | (simp; omega)) (by first | omega | (simp; done) | (simp; omega)), ((((Below.refl w.heap.size w).drew.alloc (Nat.le_refl _) _).alloc (by first | omega | (simp; done) | (simp; omega)) _).alloc (by first | omega | (simp; done) | (simp; omega)) _).alloc (by first | omega | (simp; done) | (simp; omega)) _⟩
    · go_simp
      refine hK.out _ _ trivial (fun hHeld => ?_)
      clear hK K
      try simp only [Act.put]
      try simp only [List.setIfInBounds_toArray]
      try simp only [List.set_cons_succ]
      try simp only [List.set_cons_zero]
      refine wpAnyH_ready (rs := [1]) (by kernel_rfl) (by simp) ?_
      refine AllReadyH.cons (at_list rfl) (fun K hK => ?_) AllReadyH.nil
      go_simp
      refine hK.out _ _ trivial (fun hHeld => ?_)
      clear hK K
      try simp only [Act.put]
      try simp only [List.setIfInBounds_toArray]
      try simp only [List.set_cons_succ]
      try simp only [List.set_cons_zero]
      refine wpAnyH_take (i := 3) (v := ?_) (at_list rfl) (by kernel_rfl) (by kernel_rfl) (by kernel_rfl) (fun _ _ _ h => h) (Or.inl ⟨by rfl, ?_⟩) (by assumption) ?_
      rotate_left
      · intro w hSw; (try dsimp only at hSw); first | (go_simp; done) | (go_simp; with_reducible rfl)
      try simp only [Act.put]
      try simp only [List.setIfInBounds_toArray]
      try simp only [List.set_cons_succ]
      try simp only [List.set_cons_zero]
      refine wpAnyH_ready (rs := [4]) (by kernel_rfl) (by simp) ?_
      refine AllReadyH.cons (at_list rfl) (fun K hK => ?_) AllReadyH.nil
      go_simp
      refine hK.out _ _ (trivial) (fun hHeld => ?_)
      clear hK K
      try simp only [Act.put]
      try simp only [List.setIfInBounds_toArray]
      try simp only [List.set_cons_succ]
      try simp only [List.set_cons_zero]
      refine wpAnyH_take (i := 5) (v := ?_) (at_list rfl) (by kernel_rfl) (by kernel_rfl) (by kernel_rfl) (fun _ _ _ h => h) (Or.inl ⟨by rfl, ?_⟩) (by assumption) ?_
      rotate_left
      · intro w hSw; (try dsimp only at hSw); first | (go_simp; done) | (go_simp; with_reducible rfl)
      try simp only [Act.put]
      try simp only [List.setIfInBounds_toArray]
      try simp only [List.set_cons_succ]
      try simp only [List.set_cons_zero]
      refine wpAnyH_done (by kernel_rfl) ?_ _
      refine NoPanic.normal ?_
      go_wp2
      go_ret
      exact ⟨_, _, _, _, rfl, rm_new (four (w := w.drew) _ _ _ _).2.2.2 (four (w := w.drew) _ _ _ _).1 (four (w := w.drew) _ _ _ _).2.2.1 (four (w := w.drew) _ _ _ _).2.1 (by first | omega | (simp; done) | (simp; omega)) (by first | omega | (simp; done) | (simp; omega)) (by first | omega | (simp; done) | (simp; omega)) (by first | omega | (simp; done) | (simp; omega)) (by first | omega | (simp; done) | (simp; omega)) (by first | omega | (simp; done) | (simp; omega)) (by first | omega | (simp; done) | (simp; omega)) (by first | omega | (simp; done) | (simp; omega)) (by first | omega | (simp; done) | (simp; omega)), ((((Below.refl w.heap.size w).drew.alloc (Nat.le_refl _) _).alloc (by first | omega | (simp; done) | (simp; omega)) _).alloc (by first | omega | (simp; done) | (simp; omega)) _).alloc (by first | omega | (simp; done) | (simp; omega)) _⟩
  · go_simp
    refine hK.out _ _ trivial (fun hHeld => ?_)
    clear hK K
    try simp only [Act.put]
    try simp only [List.setIfInBounds_toArray]
    try simp only [List.set_cons_succ]
    try simp only [List.set_cons_zero]
    refine wpAnyH_ready (rs := [0, 2]) (by kernel_rfl) (by simp) ?_
    refine AllReadyH.cons (at_list rfl) (fun K hK => ?_) (AllReadyH.cons (at_list rfl) (fun K hK => ?_) AllReadyH.nil)
    · go_simp
      refine hK.out _ _ trivial (fun hHeld => ?_)
      clear hK K
      try simp only [Act.put]
      try simp only [List.setIfInBounds_toArray]
      try simp only [List.set_cons_succ]
      try simp only [List.set_cons_zero]
      refine wpAnyH_ready (rs := [2]) (by kernel_rfl) (by simp) ?_
      refine AllReadyH.cons (at_list rfl) (fun K hK => ?_) AllReadyH.nil
      go_simp
      refine hK.out _ _ trivial (fun hHeld => ?_)
      clear hK K
      try simp only [Act.put]
      try simp only [List.setIfInBounds_toArray]
      try simp only [List.set_cons_succ]
      try simp only [List.set_cons_zero]
      refine wpAnyH_take (i := 3) (v := ?_) (at_list rfl) (by kernel_rfl) (by kernel_rfl) (by kernel_rfl) (fun _ _ _ h => h) (Or.inl ⟨by rfl, ?_⟩) (by assumption) ?_
      rotate_left
      · intro w hSw; (try dsimp only at hSw); first | (go_simp; done) | (go_simp; with_reducible rfl)
      try simp only [Act.put]
      try simp only [List.setIfInBounds_toArray]
      try simp only [List.set_cons_succ]
      try simp only [List.set_cons_zero]
      refine wpAnyH_ready (rs := [4]) (by kernel_rfl) (by simp) ?_
      refine AllReadyH.cons (at_list rfl) (fun K hK => ?_) AllReadyH.nil
      go_simp
      refine hK.out _ _ (trivial) (fun hHeld => ?_)
      clear hK K
      try simp only [Act.put]
      try simp only [List.setIfInBounds_toArray]
      try simp only [List.set_cons_succ]
      try simp only [List.set_cons_zero]
      refine wpAnyH_take (i := 5) (v := ?_) (at_list rfl) (by kernel_rfl) (by kernel_rfl) (by kernel_rfl) (fun _ _ _ h => h) (Or.inl ⟨by rfl, ?_⟩) (by assumption) ?_
      rotate_left
      · intro w hSw; (try dsimp only at hSw); first | (go_simp; done) | (go_simp; with_reducible rfl)
      try simp only [Act.put]
      try simp only [List.setIfInBounds_toArray]
      try simp only [List.set_cons_succ]
      try simp only [List.set_cons_zero]
      refine wpAnyH_done (by kernel_rfl) ?_ _
      refine NoPanic.normal ?_
      go_wp2
      go_ret
      exact ⟨_, _, _, _, rfl, rm_new (four (w := w.drew) _ _ _ _).2.2.2 (four (w := w.drew) _ _ _ _).2.1 (four (w := w.drew) _ _ _ _).1 (four (w := w.drew) _ _ _ _).2.2.1 (by first | omega | (simp; done) | (simp; omega)) (by first | omega | (simp; done) | (simp; omega)) (by first | omega | (simp; done) | (simp; omega)) (by first | omega | (simp; done) | (simp; omega)) (by first | omega | (simp; done) | (simp; omega)) (by first | omega | (simp; done) | (simp; omega)) (by first | omega | (simp; done) | (simp; omega)) (by first | omega | (simp; done) | (simp; omega)) (by first | omega | (simp; done) | (simp; omega)), ((((Below.refl w.heap.size w).drew.alloc (Nat.le_refl _) _).alloc (by first | omega | (simp; done) | (simp; omega)) _).alloc (by first | omega | (simp; done) | (simp; omega)) _).alloc (by first | omega | (simp; done) | (simp; omega)) _⟩
    · go_simp
      refine hK.out _ _ trivial (fun hHeld => ?_)
      clear hK K
      try simp only [Act.put]
      try simp only [List.setIfInBounds_toArray]
      try simp only [List.set_cons_succ]
      try simp only [List.set_cons_zero]
      refine wpAnyH_ready (rs := [0]) (by kernel_rfl) (by simp) ?_
      refine AllReadyH.cons (at_list rfl) (fun K hK => ?_) AllReadyH.nil
      go_simp
      refine hK.out _ _ trivial (fun hHeld => ?_)
      clear hK K
      try simp only [Act.put]
      try simp only [List.setIfInBounds_toArray]
      try simp only [List.set_cons_succ]
      try simp only [List.set_cons_zero]
      refine wpAnyH_take (i := 3) (v := ?_) (at_list rfl) (by kernel_rfl) (by kernel_rfl) (by kernel_rfl) (fun _ _ _ h => h) (Or.inl ⟨by rfl, ?_⟩) (by assumption) ?_
      rotate_left
      · intro w hSw; (try dsimp only at hSw); first | (go_simp; done) | (go_simp; with_reducible rfl)
      try simp only [Act.put]
      try simp only [List.setIfInBounds_toArray]
      try simp only [List.set_cons_succ]
      try simp only [List.set_cons_zero]
      refine wpAnyH_ready (rs := [4]) (by kernel_rfl) (by simp) ?_
      refine AllReadyH.cons (at_list rfl) (fun K hK => ?_) AllReadyH.nil
      go_simp
      refine hK.out _ _ (trivial) (fun hHeld => ?_)
      clear hK K
      try simp only [Act.put]
      try simp only [List.setIfInBounds_toArray]
      try simp only [List.set_cons_succ]
      try simp only [List.set_cons_zero]
      refine wpAnyH_take (i := 5) (v := ?_) (at_list rfl) (by kernel_rfl) (by kernel_rfl) (by kernel_rfl) (fun _ _ _ h => h) (Or.inl ⟨by rfl, ?_⟩) (by assumption) ?_
      rotate_left
      · intro w hSw; (try dsimp only at hSw); first | (go_simp; done) | (go_simp; with_reducible rfl)
      try simp only [Act.put]
      try simp only [List.setIfInBounds_toArray]
      try simp only [List.set_cons_succ]
      try simp only [List.set_cons_zero]
      refine wpAnyH_done (by kernel_rfl) ?_ _
      refine NoPanic.normal ?_
      go_wp2
      go_ret
      exact ⟨_, _, _, _, rfl, rm_new (four (w := w.drew) _ _ _ _).2.2.2 (four (w := w.drew) _ _ _ _).2.2.1 (four (w := w.drew) _ _ _ _).1 (four (w := w.drew) _ _ _ _).2.1 (by first | omega | (simp; done) | (simp; omega)) (by first | omega | (simp; done) | (simp; omega)) (by first | omega | (simp; done) | (simp; omega)) (by first | omega | (simp; done) | (simp; omega)) (by first | omega | (simp; done) | (simp; omega)) (by first | omega | (simp; done) | (simp; omega)) (by first | omega | (simp; done) | (simp; omega)) (by first | omega | (simp; done) | (simp; omega)) (by first | omega | (simp; done) | (simp; omega)), ((((Below.refl w.heap.size w).drew.alloc (Nat.le_refl _) _).alloc (by first | omega | (simp; done) | (simp; omega)) _).alloc (by first | omega | (simp; done) | (simp; omega)) _).alloc (by first | omega | (simp; done) | (simp; omega)) _⟩
  · go_simp
    refine hK.out _ _ trivial (fun hHeld => ?_)
    clear hK K
    try simp only [Act.put]
    try simp only [List.setIfInBounds_toArray]
    try simp only [List.set_cons_succ]
    try simp only [List.set_cons_zero]
    refine wpAnyH_ready (rs := [0, 1]) (by kernel_rfl) (by simp) ?_
    refine AllReadyH.cons (at_list rfl) (fun K hK => ?_) (AllReadyH.cons (at_list rfl) (fun K hK => ?_) AllReadyH.nil)
    · go_simp
      refine hK.out _ _ trivial (fun hHeld => ?_)
      clear hK K
      try simp only [Act.put]
      try simp only [List.setIfInBounds_toArray]
      try simp only [List.set_cons_succ]
      try simp only [List.set_cons_zero]
      refine wpAnyH_ready (rs := [1]) (by kernel_rfl) (by simp) ?_
      refine AllReadyH.cons (at_list rfl) (fun K hK => ?_) AllReadyH.nil
      go_simp
      refine hK.out _ _ trivial (fun hHeld => ?_)
      clear hK K
      try simp only [Act.put]
      try simp only [List.setIfInBounds_toArray]
      try simp only [List.set_cons_succ]
      try simp only [List.set_cons_zero]
      refine wpAnyH_take (i := 3) (v := ?_) (at_list rfl) (by kernel_rfl) (by kernel_rfl) (by kernel_rfl) (fun _ _ _ h => h) (Or.inl ⟨by rfl, ?_⟩) (by assumption) ?_
      rotate_left
      · intro w hSw; (try dsimp only at hSw); first | (go_simp; done) | (go_simp; with_reducible rfl)
      try simp only [Act.put]
      try simp only [List.setIfInBounds_toArray]
      try simp only [List.set_cons_succ]
      try simp only [List.set_cons_zero]
      refine wpAnyH_ready (rs := [4]) (by kernel_rfl) (by simp) ?_
      refine AllReadyH.cons (at_list rfl) (fun K hK => ?_) AllReadyH.nil
      go_simp
      refine hK.out _ _ (trivial) (fun hHeld => ?_)
      clear hK K
      try simp only [Act.put]
      try simp only [List.setIfInBounds_toArray]
      try simp only [List.set_cons_succ]
      try simp only [List.set_cons_zero]
      refine wpAnyH_take (i := 5) (v := ?_) (at_list rfl) (by kernel_rfl) (by kernel_rfl) (by kernel_rfl) (fun _ _ _ h => h) (Or.inl ⟨by rfl, ?_⟩) (by assumption) ?_
      rotate_left
      · intro w hSw; (try dsimp only at hSw); first | (go_simp; done) | (go_simp; with_reducible rfl)
      try simp only [Act.put]
      try simp only [List.setIfInBounds_toArray]
      try simp only [List.set_cons_succ]
      try simp only [List.set_cons_zero]
      refine wpAnyH_done (by kernel_rfl) ?_ _
      refine NoPanic.normal ?_
      go_wp2
      go_ret
      exact ⟨_, _, _, _, rfl, rm_new (four (w := w.drew) _ _ _ _).2.2.2 (four (w := w.drew) _ _ _ _).2.1 (four (w := w.drew) _ _ _ _).2.2.1 (four (w := w.drew) _ _ _ _).1 (by first | omega | (simp; done) | (simp; omega)) (by first | omega | (simp; done) | (simp; omega)) (by first | omega | (simp; done) | (simp; omega)) (by first | omega | (simp; done) | (simp; omega)) (by first | omega | (simp; done) | (simp; omega)) (by first | omega | (simp; done) | (simp; omega)) (by first | omega | (simp; done) | (simp; omega)) (by first | omega | (simp; done) | (simp; omega)) (by first | omega | (simp; done) | (simp; omega)), ((((Below.refl w.heap.size w).drew.alloc (Nat.le_refl _) _).alloc (by first | omega | (simp; done) | (simp; omega)) _).alloc (by first | omega | (simp; done) | (simp; omega)) _).alloc (by first | omega | (simp; done) | (simp; omega)) _⟩
    · go_simp
      refine hK.out _ _ trivial (fun hHeld => ?_)
      clear hK K
      try simp only [Act.put]
      try simp only [List.setIfInBounds_toArray]
      try simp only [List.set_cons_succ]
      try simp only [List.set_cons_zero]
      refine wpAnyH_ready (rs := [0]) (by kernel_rfl) (by simp) ?_
      refine AllReadyH.cons (at_list rfl) (fun K hK => ?_) AllReadyH.nil
      go_simp
      refine hK.out _ _ trivial (fun hHeld => ?_)
      clear hK K
      try simp only [Act.put]
      try simp only [List.setIfInBounds_toArray]
      try simp only [List.set_cons_succ]
      try simp only [List.set_cons_zero]
      refine wpAnyH_take (i := 3) (v := ?_) (at_list rfl) (by kernel_rfl) (by kernel_rfl) (by kernel_rfl) (fun _ _ _ h => h) (Or.inl ⟨by rfl, ?_⟩) (by assumption) ?_
      rotate_left
      · intro w hSw; (try dsimp only at hSw); first | (go_simp; done) | (go_simp; with_reducible rfl)
      try simp only [Act.put]
      try simp only [List.setIfInBounds_toArray]
      try simp only [List.set_cons_succ]
      try simp only [List.set_cons_zero]
      refine wpAnyH_ready (rs := [4]) (by kernel_rfl) (by simp) ?_
      refine AllReadyH.cons (at_list rfl) (fun K hK => ?_) AllReadyH.nil
      go_simp
      refine hK.out _ _ (trivial) (fun hHeld => ?_)
      clear hK K
      try simp only [Act.put]
      try simp only [List.setIfInBounds_toArray]
      try simp only [List.set_cons_succ]
      try simp only [List.set_cons_zero]
      refine wpAnyH_take (i := 5) (v := ?_) (at_list rfl) (by kernel_rfl) (by kernel_rfl) (by kernel_rfl) (fun _ _ _ h => h) (Or.inl ⟨by rfl, ?_⟩) (by assumption) ?_
      rotate_left
      · intro w hSw; (try dsimp only at hSw); first | (go_simp; done) | (go_simp; with_reducible rfl)
      try simp only [Act.put]
      try simp only [List.setIfInBounds_toArray]
      try simp only [List.set_cons_succ]
      try simp only [List.set_cons_zero]
      refine wpAnyH_done (by kernel_rfl) ?_ _
      refine NoPanic.normal ?_
      go_wp2
      go_ret
      exact ⟨_, _, _, _, rfl, rm_new (four (w := w.drew) _ _ _ _).2.2.2 (four (w := w.drew) _ _ _ _).2.2.1 (four (w := w.drew) _ _ _ _).2.1 (four (w := w.drew) _ _ _ _).1 (by first | omega | (simp; done) | (simp; omega)) (by first | omega | (simp; done) | (simp; omega)) (by first | omega | (simp; done) | (simp; omega)) (by first | omega | (simp; done) | (simp; omega)) (by first | omega | (simp; done) | (simp; omega)) (by first | omega | (simp; done) | (simp; omega)) (by first | omega | (simp; done) | (simp; omega)) (by first | omega | (simp; done) | (simp; omega)) (by first | omega | (simp; done) | (simp; omega)), ((((Below.refl w.heap.size w).drew.alloc (Nat.le_refl _) _).alloc (by first | omega | (simp; done) | (simp; omega)) _).alloc (by first | omega | (simp; done) | (simp; omega)) _).alloc (by first | omega | (simp; done) | (simp; omega)) _⟩

end Go.Proofs.Ytoihlnjcgopdlaa

namespace Go.Proofs.Ytoihlnjcgopdlaa
open Go.RowKit

theorem bytes_put (N n b : Nat) : ((bytesL N n).map (Value.int .u8)).set (b / 8) (.int .u8 (byteOf (N ||| 2 ^ b) (b / 8))) = (bytesL (N ||| 2 ^ b) n).map (Value.int .u8) := by
  apply List.ext_getElem
  · simp [bytesL]
  · intro i h1 h2
    rw [List.getElem_set]
    simp [bytesL] at h2 ⊢
    split
    · rename_i e; subst e; rfl
    · rename_i e; rw [byteOf_other N b i (by omega)]

theorem shl_u8 (b : Nat) (w : World) : (Op.shift BinOp.shl IntKind.u8 1 IntKind.i64 ((b : Int).tmod 8)).run Try.prog w = .ok (.int .u8 (2 ^ (b % 8))) w := by
  have e : (b : Int).tmod 8 = ((b % 8 : Nat) : Int) := by rw [Int.tmod_eq_emod_of_nonneg (by omega)]; omega
  rw [e]
  have hd : b % 8 = 0 ∨ b % 8 = 1 ∨ b % 8 = 2 ∨ b % 8 = 3 ∨ b % 8 = 4 ∨ b % 8 = 5 ∨ b % 8 = 6 ∨ b % 8 = 7 := by omega
  rcases hd with h | h | h | h | h | h | h | h <;> rw [h] <;> rfl
theorem or_u8 (N b : Nat) : bits BinOp.or IntKind.u8 (byteOf N (b / 8) : Int) (2 ^ (b % 8)) = (byteOf (N ||| 2 ^ b) (b / 8) : Int) := by
  have h1 : 2 ^ (b % 8) < 256 := by
    have : 2 ^ (b % 8) ≤ 2 ^ 7 := Nat.pow_le_pow_right (by omega) (by omega)
    have e : (2 : Nat) ^ 7 = 128 := rfl
    omega
  have e : ((2 : Int) ^ (b % 8)) = ((2 ^ (b % 8) : Nat) : Int) := by simp
  rw [e, u8_or_nat _ _ (byteOf_lt N _) h1, byteOf_put]

set_option maxRecDepth 100000 in
set_option maxHeartbeats 1000000 in
theorem rPut_any (B g cap n N b : Nat) (w : World) (h : w.ownsRow B 5 1 (.slice (some ⟨g, 0, none⟩) n cap) n ((bytesL N n).map (Value.int .u8))) (hb : b < 8 * n) (hn : n ≤ 8) :
    Calls Try.prog 47 #[.slice (some ⟨g, 0, none⟩) n cap, .int .i64 b] w fun e w' => e = .returned (.tuple #[]) ∧ w'.ownsRow B 5 1 (.slice (some ⟨g, 0, none⟩) n cap) n ((bytesL (N ||| 2 ^ b) n).map (Value.int .u8)) ∧ w.grownBy w' (some g) := by
  have hq : b / 8 < n := by omega
  have hcell : w.cell? ⟨g, b / 8, none⟩ = some (.int .u8 (byteOf N (b / 8))) := by
    rw [h.cellAt (b / 8) (by omega)]
    simp [bytesL, hq]
  have hfree := h.frozenAt (b / 8)
  have HST := hide (h.stored (b / 8) (.int .u8 (byteOf (N ||| 2 ^ b) (b / 8))))
  have h0 : (0 : Int) ≤ (b : Int) := by omega
  have h1 : IntKind.i64.wrap ((b : Int) / 8) = (b : Int) / 8 := by rw [IntKind.wrap_i64]; omega
  have h3 : (0 : Int) ≤ (b : Int) / 8 := by omega
  have h4 : (b : Int) / 8 < (n : Int) := by omega
  have h5 : ((b : Int) / 8).toNat = b / 8 := by omega
  have hsh := shl_u8 b
  have hor := or_u8 N b
  have HH := hide h
  clear h
  go_enter Try.func47, Try.ntmps47
  go_wp2
  refine wp_region_noPanic ?_
  refine wp_region_held_drew (S := fun _ => True) (by kernel_rfl) trivial (fun hHeld => ?_)
  refine wpAnyH_take (i := 0) (v := ?_) (at_list rfl) (by kernel_rfl) (by kernel_rfl) (by kernel_rfl) (fun _ _ _ h => h) (Or.inl ⟨by rfl, ?_⟩) (by assumption) ?_
  rotate_left
  · intro w hSw; (try dsimp only at hSw); first | (go_simp; done) | (go_simp; with_reducible rfl)
  try simp only [Act.put]
  try simp only [List.setIfInBounds_toArray]
  try simp only [List.set_cons_succ]
  try simp only [List.set_cons_zero]
  refine wpAnyH_take (i := 1) (v := ?_) (at_list rfl) (by kernel_rfl) (by kernel_rfl) (by kernel_rfl) (fun _ _ _ h => h) (Or.inl ⟨by rfl, ?_⟩) (by assumption) ?_
  rotate_left
  · intro w hSw; (try dsimp only at hSw); first | (go_simp; done) | (go_simp; with_reducible rfl)
  try simp only [Act.put]
  try simp only [List.setIfInBounds_toArray]
  try simp only [List.set_cons_succ]
  try simp only [List.set_cons_zero]
  refine wpAnyH_take (i := 2) (v := ?_) (at_list rfl) (by kernel_rfl) (by kernel_rfl) (by kernel_rfl) (fun _ _ _ h => h) (Or.inl ⟨by rfl, ?_⟩) (by assumption) ?_
  rotate_left
  · intro w hSw; (try dsimp only at hSw); first | (go_simp; done) | (go_simp; with_reducible rfl)
  try simp only [Act.put]
  try simp only [List.setIfInBounds_toArray]
  try simp only [List.set_cons_succ]
  try simp only [List.set_cons_zero]
  refine wpAnyH_take (i := 3) (v := ?_) (at_list rfl) (by kernel_rfl) (by kernel_rfl) (by kernel_rfl) (fun _ _ _ h => h) (Or.inl ⟨by rfl, ?_⟩) (by assumption) ?_
  rotate_left
  · intro w hSw; (try dsimp only at hSw); first | (go_simp; done) | (go_simp; with_reducible rfl)
  try simp only [Act.put]
  try simp only [List.setIfInBounds_toArray]
  try simp only [List.set_cons_succ]
  try simp only [List.set_cons_zero]
  refine wpAnyH_take (i := 4) (v := ?_) (at_list rfl) (by kernel_rfl) (by kernel_rfl) (by kernel_rfl) (fun _ _ _ h => h) (Or.inl ⟨by rfl, ?_⟩) (by assumption) ?_
  rotate_left
  · intro w hSw; (try dsimp only at hSw); first | (go_simp; done) | (go_simp; with_reducible rfl)
  try simp only [Act.put]
  try simp only [List.setIfInBounds_toArray]
  try simp only [List.set_cons_succ]
  try simp only [List.set_cons_zero]
  refine wpAnyH_take (i := 5) (v := ?_) (at_list rfl) (by kernel_rfl) (by kernel_rfl) (by kernel_rfl) (fun _ _ _ h => h) (Or.inl ⟨by rfl, ?_⟩) (by assumption) ?_
  rotate_left
  · intro w hSw; (try dsimp only at hSw); first | (go_simp; done) | (go_simp; with_reducible rfl)
  try simp only [Act.put]
  try simp only [List.setIfInBounds_toArray]
  try simp only [List.set_cons_succ]
  try simp only [List.set_cons_zero]
  refine wpAnyH_take (i := 6) (v := ?_) (at_list rfl) (by kernel_rfl) (by kernel_rfl) (by kernel_rfl) (fun _ _ _ h => h) (Or.inl ⟨by rfl, ?_⟩) (by assumption) ?_
  rotate_left
  · intro w hSw; (try dsimp only at hSw); first | (go_simp; done) | (go_simp; with_reducible rfl)
  try simp only [Act.put]
  try simp only [List.setIfInBounds_toArray]
  try simp only [List.set_cons_succ]
  try simp only [List.set_cons_zero]
  refine wpAnyH_take (i := 8) (v := ?_) (at_list rfl) (by kernel_rfl) (by kernel_rfl) (by kernel_rfl) (fun _ _ _ h => h) (Or.inl ⟨by rfl, ?_⟩) (by assumption) ?_
  rotate_left
  · intro w hSw; (try dsimp only at hSw); first | (go_simp; done) | (go_simp; with_reducible rfl)
  try simp only [Act.put]
  try simp only [List.setIfInBounds_toArray]
  try simp only [List.set_cons_succ]
  try simp only [List.set_cons_zero]
  refine wpAnyH_take (i := 9) (v := ?_) (at_list rfl) (by kernel_rfl) (by kernel_rfl) (by kernel_rfl) (fun _ _ _ h => h) (Or.inl ⟨by rfl, ?_⟩) (by assumption) ?_
  rotate_left
  · intro w hSw; (try dsimp only at hSw); first | (go_simp; done) | (go_simp; with_reducible rfl)
  try simp only [Act.put]
  try simp only [List.setIfInBounds_toArray]
  try simp only [List.set_cons_succ]
  try simp only [List.set_cons_zero]
  refine wpAnyH_take (i := 10) (v := ?_) (at_list rfl) (by kernel_rfl) (by kernel_rfl) (by kernel_rfl) (fun _ _ _ h => h) (Or.inl ⟨by rfl, ?_⟩) (by assumption) ?_
  rotate_left
  · intro w hSw; (try dsimp only at hSw); first | (go_simp; done) | (go_simp; with_reducible rfl)
  try simp only [Act.put]
  try simp only [List.setIfInBounds_toArray]
  try simp only [List.set_cons_succ]
  try simp only [List.set_cons_zero]
  refine wpAnyH_ready (rs := [7]) (by kernel_rfl) (by simp) ?_
  refine AllReadyH.cons (at_list rfl) (fun K hK => ?_) AllReadyH.nil
  go_simp
  refine hK.out _ _ (trivial) (fun hHeld => ?_)
  clear hK K
  try simp only [Act.put]
  try simp only [List.setIfInBounds_toArray]
  try simp only [List.set_cons_succ]
  try simp only [List.set_cons_zero]
  refine wpAnyH_take (i := 11) (v := ?_) (at_list rfl) (by kernel_rfl) (by kernel_rfl) (by kernel_rfl) (fun _ _ _ h => h) (Or.inl ⟨by rfl, ?_⟩) (by assumption) ?_
  rotate_left
  · intro w hSw; (try dsimp only at hSw); first | (go_simp; done) | (go_simp; with_reducible rfl)
  try simp only [Act.put]
  try simp only [List.setIfInBounds_toArray]
  try simp only [List.set_cons_succ]
  try simp only [List.set_cons_zero]
  refine wpAnyH_take (i := 12) (v := ?_) (at_list rfl) (by kernel_rfl) (by kernel_rfl) (by kernel_rfl) (fun _ _ _ h => h) (Or.inl ⟨by rfl, ?_⟩) (by assumption) ?_
  rotate_left
  · intro w hSw; (try dsimp only at hSw); first | (go_simp; done) | (go_simp; with_reducible rfl)
  try simp only [Act.put]
  try simp only [List.setIfInBounds_toArray]
  try simp only [List.set_cons_succ]
  try simp only [List.set_cons_zero]
  refine wpAnyH_ready (rs := [13]) (by kernel_rfl) (by simp) ?_
  refine AllReadyH.cons (at_list rfl) (fun K hK => ?_) AllReadyH.nil
  go_simp
  refine hK.out _ _ (trivial) (fun hHeld => ?_)
  clear hK K
  try simp only [Act.put]
  try simp only [List.setIfInBounds_toArray]
  try simp only [List.set_cons_succ]
  try simp only [List.set_cons_zero]
  refine wpAnyH_done (by kernel_rfl) ?_ _
  refine NoPanic.normal ?_
  go_wp2
  go_end0
  refine ⟨rfl, ?_, ?_⟩
  · have := (unhide HST).1
    rw [bytes_put] at this
    exact this
  · have := (unhide HST).2
    exact ⟨this.os, this.tape, this.output, this.size, this.block⟩

set_option maxHeartbeats 400000 in
theorem rChosen_any (id : ByteArray) (sz pl : Int) (v vz : Value) (L : List Sg) (Z : List Int) (w : World) (h : RSigsAt w v L) (hl : L.length ≤ 8) (hz : IntsAt w vz Z) (hlen : Z.length = L.length) :
    Calls Try.prog 44 #[.agg #[.string id, .int .i64 sz, v, .int .i64 pl], vz] w fun e w' => e = .returned (.int .i64 (choiceOf L Z)) ∧ Below w.heap.size w w' := by
  obtain ⟨a, cap, rfl⟩ := ownsRow_form h
  have HH := hide h
  have HZ := hide hz
  obtain ⟨za, zcap, rfl, hz1, hz2, hz3⟩ := hz
  have HN := hide hz2
  have HC := hide hz3
  clear h hz2 hz3
  have hle1 : Z.length ≤ L.length := by omega
  have hle2 : L.length ≤ Z.length := by omega
  clear hlen
  go_enter Try.func44, Try.ntmps44
  go_wp2_with fail
  refine (rMux_any id sz pl _ L _ (ownsRow_below (unhide HH) ((Below.refl _ _).alloc (Nat.le_refl _) _)) hl).mono ?_
  rintro e w2 ⟨rfl, hb2⟩
  have HB2 := hide (((Below.refl _ _).alloc (Nat.le_refl _) _).trans (hb2.mono (by simp)))
  clear hb2
  rcases mux_range L with hmx | ⟨x, hx, hmx, _⟩
  · have HCH := hide (show choiceOf L Z = 0 by rw [choiceOf, hmx]; rfl)
    rw [hmx]
    clear hmx
    go_wp2
    go_ret
    exact ⟨ret_int (by rw [unhide HCH]), unhide HB2⟩
  · have hchx : choiceOf L Z = zAt Z x := by rw [choiceOf, hmx, if_pos (by omega), Int.toNat_natCast]
    have HCH := hide hchx
    rw [hmx]
    have hi1 : (x : Int) < (Z.length : Int) := by omega
    cases za with
    | none => have := unhide HN rfl; omega
    | some xa =>
      have hzc := ints_cell (unhide HC xa rfl) (unhide HB2) (show x < Z.length by omega)
      clear hchx hmx
      go_wp2
      go_ret
      exact ⟨ret_int (by rw [unhide HCH]), unhide HB2⟩

end Go.Proofs.Ytoihlnjcgopdlaa

namespace Go.Proofs.Ytoihlnjcgopdlaa
open Go.RowKit

theorem mod_set1 {N k : Nat} (h : N.testBit k = true) : N % 2 ^ (k + 1) = N % 2 ^ k ||| 2 ^ k := by
  apply Nat.eq_of_testBit_eq
  intro i
  rw [Nat.testBit_mod_two_pow, Nat.testBit_or, Nat.testBit_mod_two_pow, Nat.testBit_two_pow]
  by_cases e : i = k
  · subst e; simp [h]
  · have h1 : (i < k + 1) ↔ i < k := by omega
    have h2 : ¬ k = i := fun h => e h.symm
    simp [h1, h2]
theorem mod_setb (N k : Nat) : setb (N % 2 ^ k) k (N.testBit k) = N % 2 ^ (k + 1) := by
  apply Nat.eq_of_testBit_eq
  intro i
  rw [setb_test, Nat.testBit_mod_two_pow, Nat.testBit_mod_two_pow]
  by_cases e : i = k
  · subst e; simp
  · have h1 : (i < k + 1) ↔ i < k := by omega
    simp [e, h1]
theorem mod_set0 {N k : Nat} (h : N.testBit k = false) : N % 2 ^ (k + 1) = N % 2 ^ k := by
  rw [← mod_setb, h, setb, if_pos (by rw [Nat.testBit_mod_two_pow]; simp)]
theorem bytes_mod (N n : Nat) : bytesL (N % 2 ^ (8 * n)) n = bytesL N n := by
  apply List.ext_getElem
  · simp [bytesL]
  · intro i h1 h2
    simp [bytesL] at h2 ⊢
    congr 1
    apply Nat.eq_of_testBit_eq
    intro j
    rw [byteOf_bit, byteOf_bit, Nat.testBit_mod_two_pow]
    by_cases hj : j < 8
    · have : 8 * i + j < 8 * n := by omega
      simp [this]
    · simp [hj]
theorem bytesL_none (n : Nat) : (bytesL 0 n).map (Value.int .u8) = List.replicate n (.int .u8 0) := by
  apply List.ext_getElem
  · simp [bytesL]
  · intro i h1 h2; simp [bytesL, byteOf]

set_option maxRecDepth 100000 in
set_option maxHeartbeats 2000000 in
theorem rBytesOf_any (B gm g1 g2 g3 : Nat) (s : St) (n : Nat) (w : World) (h : RM w B gm g1 g2 g3 s) (hn : n ≤ 8) :
    Calls Try.prog 59 #[.pointer (some ⟨gm, 0, none⟩), .int .i64 n] w fun e w' => e = .returned (.string (payB s.N n)) ∧ Below w.heap.size w w' := by
  obtain ⟨i0, hinf, hz0, hzz1, hzz2⟩ := info_parts Try.infoU8
  have HINF := hide hinf
  have HZ0 := hide hz0
  have HZ1 := hide hzz1
  have HZB := hide hzz2
  have HM := hide h
  clear hinf hz0 hzz1 hzz2 h
  go_enter Try.func59, Try.ntmps59
  go_wp2_with (at_make; refine wpList_make_full _ rfl _ _ 38 rfl w.heap.size 5 i0 (.int .u8 0) 1 Try.underlying38 (unhide HINF) (unhide HZ0) (unhide HZ1) .i64 .i64 (n : Int) (n : Int) n rfl rfl rfl rfl (by rw [unhide HZB]; omega) (by unfold maxLen; omega) (Nat.le_refl _) ?_)
  intro w1 hown hgrow
  rw [toList_madeCells_one] at hown
  have HB1 := hide ((Below.refl w.heap.size w).grown hgrow (Nat.le_refl _) (by simp))
  have HOWN := hide hown
  clear hown hgrow
  go_wp2
  go_loopw [6] (fun i wr => ∃ k : Nat, k ≤ 8 * n ∧ i = .int .i64 k ∧ wr.ownsRow w.heap.size 5 1 (.slice (some ⟨w.heap.size, 0, none⟩) n n) n ((bytesL (s.N % 2 ^ k) n).map (Value.int .u8)) ∧ Below w.heap.size w wr) (fun i _ => 8 * n - (intOf i).toNat)
  case atStart => exact ⟨0, by omega, rfl, by rw [Nat.pow_zero, Nat.mod_one, bytesL_none]; simpa using unhide HOWN, unhide HB1⟩
  case round =>
    obtain ⟨k, hk, rfl, hrow, hb⟩ := hrel
    have HR := hide hrow
    have HB := hide hb
    clear hrow hb
    by_cases hlt : k < 8 * n
    · have hm := (unhide HM).bel (unhide HB)
      have hbx := blk_cell hm.box
      have hbt := hm.bit (show k < 64 by omega)
      have hi0 : (0 : Int) ≤ (k : Int) := by omega
      have hi1 : (k : Int) < 64 := by omega
      have hi2 : (k : Int) < 8 * (n : Int) := by omega
      have hbn := bitN_test s.N k
      clear hm
      cases ht : s.N.testBit k with
      | true =>
        rw [ht] at hbn
        simp only [if_true] at hbn
        rw [hbn] at hbt
        have HST := hide (mod_set1 ht)
        clear ht hbn
        go_wp2_with fail
        refine (rPut_any w.heap.size _ _ n _ k _ (unhide HR) hlt (by omega)).mono ?_
        rintro e w2 ⟨rfl, hrow2, hgr2⟩
        have HB2 := hide (Below.grown (unhide HB) hgr2 (unhide HB).size (fun q hq => by cases hq; exact Nat.le_refl _))
        have HR2 := hide hrow2
        clear hrow2 hgr2 hbx hbt
        go_wp2
        go_roundw
        case rel => exact ⟨k + 1, by omega, by go_num, by rw [unhide HST]; exact unhide HR2, unhide HB2⟩
        case measure => simp [intOf]; omega
      | false =>
        rw [ht] at hbn
        simp only [Bool.false_eq_true, if_false] at hbn
        rw [hbn] at hbt
        have HST := hide (mod_set0 ht)
        clear ht hbn
        go_wp2
        go_roundw
        case rel => exact ⟨k + 1, by omega, by go_num, by rw [unhide HST]; exact unhide HR, unhide HB⟩
        case measure => simp [intOf]; omega
    · have hkn : k = 8 * n := by omega
      rw [hkn, bytes_mod] at HR
      have hconv := conv_row (unhide HR)
      have hi2 : ¬ (k : Int) < 8 * (n : Int) := by omega
      clear hkn
      go_wp2
      go_ret
      exact ⟨rfl, unhide HB⟩

set_option maxRecDepth 100000 in
set_option maxHeartbeats 2000000 in
theorem rVerify_ok (L : List Ins) (w : World) (hf : Fine L) (hl : L.length ≤ 96) :
    Calls Try.prog 29 #[.string (codeB L)] w fun e w' => e = .returned (.tuple #[.int .i64 0, .int .i64 0]) ∧ Below w.heap.size w w' := by
  have HF := hide hf
  have hsz := codeB_size L
  clear hf
  go_enter Try.func29, Try.ntmps29
  go_wp2
  go_loopw [5] (fun i wr => ∃ a : Nat, i = .int .i64 a ∧ a ≤ L.length ∧ Below w.heap.size w wr) (fun i _ => L.length - (intOf i).toNat)
  case atStart => exact ⟨0, rfl, by omega, Below.refl _ _⟩
  case round =>
    obtain ⟨a, rfl, ha, hb⟩ := hrel
    have HB := hide hb
    clear hb
    by_cases hlt : a < L.length
    · obtain ⟨x, HX⟩ : ∃ x, Hid (x = inAt L a) := ⟨_, hide rfl⟩
      obtain ⟨hbyt, hkn⟩ := unhide HF a x (by rw [unhide HX]; exact inAt_some L a hlt)
      have HIX := hide (show insAt (codeB L) a = x from insAt_code (by rw [unhide HX]; exact inAt_some L a hlt) hbyt)
      have HBY := hide hbyt
      have HKN := hide hkn
      have hi1 : (a : Int) < (L.length : Int) := by omega
      clear hbyt hkn
      go_wp2_with fail
      refine (rAt_any (codeB L) a _ (by omega) (by omega)).mono ?_
      rintro e w1 ⟨rfl, hb1⟩
      rw [unhide HIX]
      have HB1 := hide ((unhide HB).trans (hb1.mono (unhide HB).size))
      clear hb1
      go_wp2_with fail
      refine (known_any x.op x.r x.b x.k x.n ((L.length : Int) - 1 - a) _ (unhide HBY) (unhide HKN)).mono ?_
      rintro e w2 ⟨rfl, hb2⟩
      have HB2 := hide ((unhide HB1).trans ((box_below (hb2.mono (by simp))).mono (unhide HB1).size))
      clear hb2
      go_wp2
      go_roundw
      case rel => exact ⟨a + 1, by go_num, by omega, unhide HB2⟩
      case measure => simp [intOf]; omega
    · have hi1 : ¬ (a : Int) < (L.length : Int) := by omega
      have hne : ((5 : Int) * (L.length : Int) != (L.length : Int) * 5) = false := by rw [bne_eq_false_iff_eq]; omega
      have hne2 : ((5 * (L.length : Int)) == ((L.length : Int) * 5)) = true := by rw [beq_iff_eq]; omega
      go_wp2
      go_ret2
      exact ⟨rfl, unhide HB⟩

end Go.Proofs.Ytoihlnjcgopdlaa
