import Derived.Test.YtljodhcfimklkaaM3
namespace Go.Proofs.Ytljodhcfimklkaa
open Go.RowKit

/-- Code that Verify admits. -/
def Fine (l : List Ins) : Prop := ∀ (i : Nat) (x : Ins), l[i]? = some x → x.Byt ∧ knownB x ((l.length : Int) - 1 - i) = true
/-- Instructions that hold wherever they stand. -/
def Plain (l : List Ins) : Prop := ∀ x ∈ l, x.Byt ∧ ∀ left, knownB x left = true
theorem fine_plain {l : List Ins} (h : Plain l) : Fine l := fun _ x hx => ⟨(h x (List.mem_of_getElem? hx)).1, (h x (List.mem_of_getElem? hx)).2 _⟩
theorem fine_append {a b : List Ins} (ha : Fine a) (hb : Fine b) : Fine (a ++ b) := by
  intro i x hx
  rw [List.length_append]
  by_cases h : i < a.length
  · rw [List.getElem?_append_left h] at hx
    obtain ⟨h1, h2⟩ := ha i x hx
    exact ⟨h1, known_mono h2 (by omega)⟩
  · rw [List.getElem?_append_right (by omega)] at hx
    obtain ⟨h1, h2⟩ := hb _ x hx
    exact ⟨h1, known_mono h2 (by omega)⟩
theorem fine_jump {l : List Ins} {mux b : Int} (h : Fine l) (hm0 : 0 ≤ mux) (hm7 : mux ≤ 7) (hb0 : 0 ≤ b) (hb1 : b ≤ 255) (hl1 : 1 ≤ l.length) (hl2 : l.length ≤ 255) : Fine (⟨74, mux, b, 0, l.length⟩ :: l) := by
  intro i x hx
  cases i with
  | zero =>
    simp at hx
    subst hx
    refine ⟨⟨by simp, by simp, hm0, by simp; omega, hb0, hb1, by simp, by simp, by simp, by simp; omega⟩, ?_⟩
    exact known_of ⟨hm7, .inr (by simp only; omega), .inr (.inr (.inr (.inl ⟨rfl, by simp only [List.length_cons]; omega⟩)))⟩
  | succ i =>
    simp at hx
    obtain ⟨h1, h2⟩ := h i x hx
    refine ⟨h1, known_mono h2 ?_⟩
    rw [List.length_cons]; omega

theorem pcs_all {s : Sg} (ok : s.Ok) (ft : s.Fits) : ∀ (f : Nat) (i : Int), 0 ≤ i → ∀ p ∈ pcs s.st s.ln s.od f i, 0 ≤ p.p ∧ p.p ≤ 63 ∧ 1 ≤ p.n ∧ p.p % 8 + p.n ≤ 8 ∧ 0 ≤ p.i ∧ p.i + p.n ≤ 32 := by
  intro f
  induction f with
  | zero => intro i _ p hp; simp [pcs] at hp
  | succ f ih =>
    intro i hi p hp
    rw [pcs] at hp
    split at hp
    · rename_i hlt
      have hb := pcLen_bounds (st := s.st) (od := s.od) hlt
      have h1 := place_lo s.st s.ln s.od i ok.st0 hi hlt
      have h2 := ft i hi hlt
      have h3 := ok.ln1
      rcases List.mem_cons.1 hp with rfl | hp
      · exact ⟨h1, h2, hb.1, hb.2.2, hi, by simp only; omega⟩
      · exact ih _ (by omega) p hp
    · simp at hp

theorem place_wrap {st ln od i : Int} (h : place st ln od i % 8 = 7) : place st ln od (i + 1) % 8 = 0 := by
  unfold place at h ⊢
  split
  · rename_i e; rw [if_pos e] at h; omega
  · rename_i e
    rw [if_neg e] at h
    unfold mir at h ⊢; omega

theorem pcs_len {st ln od : Int} : ∀ (f : Nat) (i : Int), ((pcs st ln od f i).length : Int) ≤ if i < ln then (ln - i + place st ln od i % 8 + 7) / 8 else 0 := by
  intro f
  induction f with
  | zero => intro i; simp only [pcs, List.length_nil]; split <;> omega
  | succ f ih =>
    intro i
    rw [pcs]
    split
    · rename_i hlt
      have hb := pcLen_bounds (st := st) (od := od) hlt
      rw [List.length_cons]
      have h1 := ih (i + pcLen st ln od i)
      split at h1
      · rename_i h2
        have e : pcLen st ln od i = 8 - place st ln od i % 8 := by unfold pcLen at h2 ⊢; split at h2 <;> omega
        have h3 := pcLen_run (st := st) (od := od) hlt (pcLen st ln od i - 1).toNat (by omega)
        have h4 : place st ln od (i + pcLen st ln od i - 1) % 8 = 7 := by
          rw [show i + pcLen st ln od i - 1 = i + ((pcLen st ln od i - 1).toNat : Int) by omega, h3]; omega
        have h5 := place_wrap h4
        rw [show i + pcLen st ln od i - 1 + 1 = i + pcLen st ln od i by omega] at h5
        omega
      · omega
    · simp

theorem pcs_five {s : Sg} (ok : s.Ok) : (pcs s.st s.ln s.od s.ln.toNat 0).length ≤ 5 ∧ 1 ≤ (pcs s.st s.ln s.od s.ln.toNat 0).length := by
  have h := pcs_len (st := s.st) (ln := s.ln) (od := s.od) s.ln.toNat 0
  have h0 := ok.ln0
  have h1 := ok.ln1
  rw [if_pos (by omega)] at h
  refine ⟨by omega, ?_⟩
  obtain ⟨n, hn⟩ : ∃ n, s.ln.toNat = n + 1 := ⟨s.ln.toNat - 1, by omega⟩
  rw [hn, pcs, if_pos (by omega)]; simp

theorem plain_moves {s : Sg} (ok : s.Ok) (ft : s.Fits) {op r : Int} (ho : op = 71 ∨ op = 80) (hr0 : 0 ≤ r) (hr7 : r ≤ 7) : Plain (movesL op r s.st s.ln s.od) := by
  intro x hx
  simp only [movesL, List.mem_map] at hx
  obtain ⟨p, hp, rfl⟩ := hx
  obtain ⟨h1, h2, h3, h4, h5, h6⟩ := pcs_all ok ft _ 0 (by omega) p hp
  refine ⟨⟨by simp only [Pc.ins]; omega, by simp only [Pc.ins]; omega, hr0, by simp only [Pc.ins]; omega, h1, by simp only [Pc.ins]; omega, h5, by simp only [Pc.ins]; omega, by simp only [Pc.ins]; omega, by simp only [Pc.ins]; omega⟩, fun left => ?_⟩
  exact known_of ⟨hr7, .inr h3, .inl ⟨ho, h2, h4, h6⟩⟩

theorem plain_pSteps {s : Sg} (ok : s.Ok) (ft : s.Fits) {r : Int} (hr0 : 0 ≤ r) (hr7 : r ≤ 7) : Plain (pSteps s r) := by
  intro x hx
  have h0 := ok.ln0
  have h1 := ok.ln1
  rcases List.mem_cons.1 hx with rfl | hx
  · have hk : sgnK s.kd = 0 ∨ sgnK s.kd = 1 := by unfold sgnK; split <;> omega
    refine ⟨⟨by simp, by simp, hr0, by simp only; omega, by simp, by simp, by simp only; omega, by simp only; omega, by simp only; omega, by simp only; omega⟩, fun left => ?_⟩
    exact known_of ⟨hr7, .inr h0, .inr (.inr (.inl ⟨rfl, h1, by simp only; omega⟩))⟩
  · exact plain_moves ok ft (.inr rfl) hr0 hr7 x hx

theorem plain_uSteps {s : Sg} (ok : s.Ok) (ft : s.Fits) {r : Int} (hr0 : 0 ≤ r) (hr7 : r ≤ 7) : Plain (uSteps s r) := by
  intro x hx
  have h0 := ok.ln0
  have h1 := ok.ln1
  simp only [uSteps, List.mem_append, List.mem_singleton] at hx
  rcases hx with (hx | hx) | rfl
  · exact plain_moves ok ft (.inl rfl) hr0 hr7 x hx
  · unfold xStep at hx
    split at hx
    · simp at hx
      subst hx
      refine ⟨⟨by simp, by simp, hr0, by simp only; omega, by simp, by simp, by simp, by simp, by simp only; omega, by simp only; omega⟩, fun left => ?_⟩
      exact known_of ⟨hr7, .inr h0, .inr (.inl ⟨rfl, h1⟩)⟩
    · simp at hx
  · refine ⟨⟨by simp, by simp, hr0, by simp only; omega, by simp, by simp, by simp, by simp, by simp, by simp⟩, fun left => ?_⟩
    exact known_of ⟨hr7, .inl rfl, .inr (.inr (.inr (.inr rfl)))⟩

theorem pSteps_len {s : Sg} (ok : s.Ok) (r : Int) : (pSteps s r).length ≤ 6 ∧ 1 ≤ (pSteps s r).length := by
  have := pcs_five ok
  simp only [pSteps, movesL, List.length_cons, List.length_map]; omega
theorem uSteps_len {s : Sg} (ok : s.Ok) (r : Int) : (uSteps s r).length ≤ 7 ∧ 1 ≤ (uSteps s r).length := by
  have := pcs_five ok
  have hx : (xStep s r).length ≤ 1 := by unfold xStep; split <;> simp
  simp only [uSteps, movesL, List.length_append, List.length_map, List.length_cons, List.length_nil]; omega

theorem mux_hi (L : List Sg) (hl : L.length ≤ 8) : muxOf L ≤ 7 := by
  rcases mux_range L with h | ⟨x, hx, h, _⟩ <;> omega
theorem fine_ifAct {L : List Sg} {sz : Int} (hs : Sound L sz) (hg : Good L) {k : Nat} (hk : k < L.length) {l : List Ins} (hl : Fine l) (h1 : 1 ≤ l.length) (h2 : l.length ≤ 255) : Fine (ifAct (sgAt L k) (muxOf L) l) := by
  unfold ifAct
  split
  · rename_i hd
    have hm := sound_mux hs hk hd
    simp [isDigB] at hd
    exact fine_jump hl hm (mux_hi L hg.1) (by omega) (by omega) h1 h2
  · exact hl
theorem ifAct_len (s : Sg) (mux : Int) (l : List Ins) : (ifAct s mux l).length ≤ l.length + 1 := by unfold ifAct; split <;> simp

theorem pack_fine {L : List Sg} {sz : Int} (hs : Sound L sz) (hg : Good L) (hf : AllFits L) : ∀ k, k ≤ L.length → Fine (packTo L k) ∧ (packTo L k).length ≤ 7 * k := by
  intro k
  induction k with
  | zero => intro _; exact ⟨fun i x hx => by simp [packTo] at hx, by simp [packTo]⟩
  | succ k ih =>
    intro hk
    obtain ⟨h1, h2⟩ := ih (by omega)
    have hl := hg.1
    have ok := (hg.2 k (by omega)).1
    have h3 := pSteps_len ok (k : Int)
    have h4 := ifAct_len (sgAt L k) (muxOf L) (pSteps (sgAt L k) k)
    rw [packTo, List.length_append, sigP]
    exact ⟨fine_append h1 (fine_ifAct hs hg (by omega) (fine_plain (plain_pSteps ok (hf k (by omega)) (by omega) (by omega))) (by omega) (by omega)), by omega⟩
theorem unpack_fine {L : List Sg} {sz : Int} (hs : Sound L sz) (hg : Good L) (hf : AllFits L) : ∀ k, k ≤ L.length → Fine (unpackTo L k) ∧ (unpackTo L k).length ≤ 8 * k + 7 := by
  intro k
  induction k with
  | zero =>
    intro _
    rw [unpackTo, headU]
    rcases mux_range L with hmx | ⟨x, hx, hmx, _⟩
    · rw [if_neg (by omega)]; exact ⟨fun i x hx => by simp at hx, by simp⟩
    · have hl := hg.1
      have ok := (hg.2 x hx).1
      have h3 := uSteps_len ok (x : Int)
      rw [if_pos (by omega), hmx, Int.toNat_natCast]
      exact ⟨fine_plain (plain_uSteps ok (hf x hx) (by omega) (by omega)), by omega⟩
  | succ k ih =>
    intro hk
    obtain ⟨h1, h2⟩ := ih (by omega)
    rw [unpackTo, List.length_append, sigU]
    split
    · rw [List.append_nil]; exact ⟨h1, by simp; omega⟩
    · have hl := hg.1
      have ok := (hg.2 k (by omega)).1
      have h3 := uSteps_len ok (k : Int)
      have h4 := ifAct_len (sgAt L k) (muxOf L) (uSteps (sgAt L k) k)
      exact ⟨fine_append h1 (fine_ifAct hs hg (by omega) (fine_plain (plain_uSteps ok (hf k (by omega)) (by omega) (by omega))) (by omega) (by omega)), by omega⟩

/-- How many moves a code has. -/
def isMove (x : Ins) : Bool := decide (x.op = 80) || decide (x.op = 71)
def shifts (l : List Ins) : Nat := l.countP isMove
theorem shifts_app (a b : List Ins) : shifts (a ++ b) = shifts a + shifts b := List.countP_append
theorem shifts_moves {op r st ln od : Int} (ho : op = 71 ∨ op = 80) : shifts (movesL op r st ln od) = (pcs st ln od ln.toNat 0).length := by
  rw [shifts, movesL, List.countP_map, List.countP_eq_length]
  intro x _
  simp only [Function.comp, Pc.ins, isMove]
  rcases ho with rfl | rfl <;> rfl
theorem shifts_ifAct (s : Sg) (mux : Int) (l : List Ins) : shifts (ifAct s mux l) = shifts l := by
  unfold ifAct; split
  · simp [shifts, isMove]
  · rfl
theorem shifts_p (s : Sg) (r : Int) : shifts (pSteps s r) = (pcs s.st s.ln s.od s.ln.toNat 0).length := by
  rw [pSteps, ← shifts_moves (op := 80) (r := r) (.inr rfl)]
  simp [shifts, isMove]
theorem shifts_u (s : Sg) (r : Int) : shifts (uSteps s r) = (pcs s.st s.ln s.od s.ln.toNat 0).length := by
  rw [uSteps, shifts_app, shifts_app, shifts_moves (.inl rfl)]
  have : shifts (xStep s r) = 0 := by unfold xStep; split <;> simp [shifts, isMove]
  rw [this]; simp [shifts, isMove]

/-- How many b below n there are with P. -/
def cntB (P : Nat → Bool) : Nat → Nat
  | 0 => 0
  | n + 1 => cntB P n + if P n then 1 else 0
theorem cntB_le {P Q : Nat → Bool} (h : ∀ b, Q b = true → P b = true) (n : Nat) : cntB Q n ≤ cntB P n := by
  induction n with
  | zero => simp [cntB]
  | succ n ih =>
    rw [cntB, cntB]
    have := h n
    cases hq : Q n with
    | false => simp; omega
    | true => rw [this hq]; simp; omega
theorem cntB_more {P Q : Nat → Bool} (h : ∀ b, Q b = true → P b = true) {B : Nat} (hP : P B = true) (hQ : Q B = false) (n : Nat) (hB : B < n) : cntB Q n + 1 ≤ cntB P n := by
  induction n with
  | zero => omega
  | succ n ih =>
    rw [cntB, cntB]
    by_cases e : B = n
    · subst e
      have := cntB_le h B
      rw [hP, hQ]; simp; omega
    · have h1 := ih (by omega)
      have := h n
      cases hq : Q n with
      | false => simp; omega
      | true => rw [this hq]; simp; omega

/-- Lies a bit of the signal, from i on, in byte b? -/
def hitF (st ln od : Int) (i : Int) (b : Nat) : Bool := anyIx (fun k => decide (i ≤ (k : Int)) && decide (place st ln od k / 8 = b)) ln.toNat
theorem byte_apart {st ln od i k : Int} (hod : od = 60 ∨ od = 62) (hk : i + pcLen st ln od i ≤ k) (hkl : k < ln) : place st ln od k / 8 ≠ place st ln od i / 8 := by
  have hb : pcLen st ln od i = 8 - place st ln od i % 8 := by
    unfold pcLen at hk ⊢
    split
    · rename_i h; rw [if_pos h] at hk; omega
    · rfl
  rw [hb] at hk
  rcases hod with rfl | rfl
  · simp only [place, if_true] at hk ⊢; omega
  · simp only [place] at hk ⊢
    rw [if_neg (by omega)] at hk
    rw [if_neg (by omega), if_neg (by omega)]
    generalize mir st = y at *
    unfold mir at *
    omega
theorem pcs_hits {s : Sg} (ok : s.Ok) {n : Nat} (hw : ∀ k : Nat, (k : Int) < s.ln → place s.st s.ln s.od k < 8 * n) : ∀ (f : Nat) (i : Int), 0 ≤ i → (pcs s.st s.ln s.od f i).length ≤ cntB (hitF s.st s.ln s.od i) n := by
  intro f
  induction f with
  | zero => intro i _; simp [pcs]
  | succ f ih =>
    intro i hi
    rw [pcs]
    split
    · rename_i hlt
      have hb := pcLen_bounds (st := s.st) (od := s.od) hlt
      have h1 := place_lo s.st s.ln s.od i ok.st0 hi hlt
      have h2 := hw i.toNat (by omega)
      rw [show ((i.toNat : Nat) : Int) = i by omega] at h2
      rw [List.length_cons]
      refine Nat.le_trans (Nat.succ_le_succ (ih (i + pcLen s.st s.ln s.od i) (by omega))) (cntB_more (B := (place s.st s.ln s.od i / 8).toNat) ?_ ?_ ?_ n (by omega))
      · intro b h
        rw [hitF, anyIx_true] at h ⊢
        obtain ⟨k, hk, h⟩ := h
        simp only [Bool.and_eq_true, decide_eq_true_eq] at h
        exact ⟨k, hk, by simp only [Bool.and_eq_true, decide_eq_true_eq]; exact ⟨by omega, h.2⟩⟩
      · rw [hitF, anyIx_true]
        refine ⟨i.toNat, by omega, ?_⟩
        simp only [Bool.and_eq_true, decide_eq_true_eq]
        rw [show ((i.toNat : Nat) : Int) = i by omega]
        exact ⟨by omega, by omega⟩
      · cases hq : hitF s.st s.ln s.od (i + pcLen s.st s.ln s.od i) (place s.st s.ln s.od i / 8).toNat with
        | false => rfl
        | true =>
          exfalso
          rw [hitF, anyIx_true] at hq
          obtain ⟨k, hk, h⟩ := hq
          simp only [Bool.and_eq_true, decide_eq_true_eq] at h
          exact byte_apart ok.od h.1 (by omega) (by omega)
    · simp

/-- Lies a bit of the signal in byte b? -/
def hitB (s : Sg) (b : Nat) : Bool := anyIx (fun k => decide (place s.st s.ln s.od k / 8 = b)) s.ln.toNat
/-- P11: how many pairs there are. -/
def pairsTo (L : List Sg) (n : Nat) : Nat → Nat
  | 0 => 0
  | k + 1 => pairsTo L n k + cntB (hitB (sgAt L k)) n
theorem pcs_pairs {L : List Sg} {sz : Int} (hg : Good L) (hw : Within L sz) (h0 : 0 ≤ sz) {k : Nat} (hk : k < L.length) : (pcs (sgAt L k).st (sgAt L k).ln (sgAt L k).od (sgAt L k).ln.toNat 0).length ≤ cntB (hitB (sgAt L k)) sz.toNat := by
  refine Nat.le_trans (pcs_hits (hg.2 k hk).1 (n := sz.toNat) (fun j hj => by have := hw k hk j hj; omega) _ 0 (by omega)) (cntB_le ?_ _)
  intro b h
  rw [hitF, anyIx_true] at h
  obtain ⟨j, hj, h⟩ := h
  simp only [Bool.and_eq_true] at h
  rw [hitB, anyIx_true]
  exact ⟨j, hj, h.2⟩
theorem pack_shifts {L : List Sg} {sz : Int} (hg : Good L) (hw : Within L sz) (h0 : 0 ≤ sz) : ∀ k, k ≤ L.length → shifts (packTo L k) ≤ pairsTo L sz.toNat k := by
  intro k
  induction k with
  | zero => intro _; simp [packTo, shifts]
  | succ k ih =>
    intro hk
    have h1 := ih (by omega)
    have h2 := pcs_pairs hg hw h0 (show k < L.length by omega)
    rw [packTo, shifts_app, sigP, shifts_ifAct, shifts_p, pairsTo]
    omega
/-- The moves of the multiplexor, if it stands behind k. -/
def muxShare (L : List Sg) (k : Nat) : Nat := if (k : Int) ≤ muxOf L then (pcs (sgAt L (muxOf L).toNat).st (sgAt L (muxOf L).toNat).ln (sgAt L (muxOf L).toNat).od (sgAt L (muxOf L).toNat).ln.toNat 0).length else 0
theorem unpack_shifts {L : List Sg} {sz : Int} (hg : Good L) (hw : Within L sz) (h0 : 0 ≤ sz) : ∀ k, k ≤ L.length → shifts (unpackTo L k) ≤ pairsTo L sz.toNat k + muxShare L k := by
  intro k
  induction k with
  | zero =>
    intro _
    rw [unpackTo, headU, pairsTo, muxShare]
    simp only [Int.natCast_zero]
    split
    · rw [shifts_u]; omega
    · simp [shifts]
  | succ k ih =>
    intro hk
    have h1 := ih (by omega)
    have h2 := pcs_pairs hg hw h0 (show k < L.length by omega)
    rw [unpackTo, shifts_app, sigU, pairsTo]
    by_cases e : (k : Int) = muxOf L
    · rw [if_pos e]
      have h3 : muxShare L k = (pcs (sgAt L k).st (sgAt L k).ln (sgAt L k).od (sgAt L k).ln.toNat 0).length := by
        rw [muxShare, if_pos (by omega), ← e, Int.toNat_natCast]
      have h4 : shifts ([] : List Ins) = 0 := rfl
      rw [h4]; omega
    · rw [if_neg e, shifts_ifAct, shifts_u]
      have h3 : muxShare L (k + 1) = muxShare L k := by
        unfold muxShare
        by_cases h : (k : Int) ≤ muxOf L
        · rw [if_pos h, if_pos (by omega)]
        · rw [if_neg h, if_neg (by omega)]
      omega
theorem unpack_few {L : List Sg} {sz : Int} (hg : Good L) (hw : Within L sz) (h0 : 0 ≤ sz) : shifts (unpackTo L L.length) ≤ pairsTo L sz.toNat L.length := by
  have h := unpack_shifts hg hw h0 L.length (Nat.le_refl _)
  have : muxShare L L.length = 0 := by
    unfold muxShare
    rcases mux_range L with hmx | ⟨x, hx, hmx, _⟩
    · rw [if_neg (by omega)]
    · rw [if_neg (by omega)]
  omega

end Go.Proofs.Ytljodhcfimklkaa
