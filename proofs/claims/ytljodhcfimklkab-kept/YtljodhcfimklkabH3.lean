import Derived.Test.YtljodhcfimklkabG4
namespace Go.Proofs.Ytljodhcfimklkab
open Go.RowKit

theorem anyIx_congr {f g : Nat → Bool} {n : Nat} (h : ∀ k, k < n → f k = g k) : anyIx f n = anyIx g n := by
  rw [Bool.eq_iff_iff, anyIx_true, anyIx_true]
  constructor
  · rintro ⟨k, hk, e⟩; exact ⟨k, hk, by rw [← h k hk]; exact e⟩
  · rintro ⟨k, hk, e⟩; exact ⟨k, hk, by rw [h k hk]; exact e⟩

/-- As the document's reader says it. -/
def errR (L : List Sg) (sz : Int) (i : Nat) : Int :=
  if anyIx (fun k => decide ((sgAt L k).nm = (sgAt L i).nm)) i then 3
  else if ((sgAt L i).rl = 77 ∧ muxOf L < i) ∨ (isDigB (sgAt L i).rl = true ∧ muxOf L < 0) then 4
  else if anyIx (fun k => decide (8 * sz ≤ place (sgAt L i).st (sgAt L i).ln (sgAt L i).od k)) (sgAt L i).ln.toNat then 5
  else if anyIx (fun k => meetB (sgAt L k).rl (sgAt L i).rl && shareB (sgAt L k) (sgAt L i)) i then 6
  else 0

theorem mux_lt (L : List Sg) (i : Nat) (hi : i < L.length) (h : (sgAt L i).rl = 77) : muxOf L < i ↔ 0 ≤ muxOf (L.take i) := by
  have hlen : (L.take i).length = i := by rw [List.length_take]; omega
  unfold muxOf findIx
  rw [hlen]
  have hle := firstIx_le (fun k => decide ((sgAt L k).rl = 77)) L.length
  have hno := firstIx_no (fun k => decide ((sgAt L k).rl = 77)) L.length
  have hyes := firstIx_yes (fun k => decide ((sgAt L k).rl = 77)) L.length
  have hle2 := firstIx_le (fun k => decide ((sgAt (L.take i) k).rl = 77)) i
  have hno2 := firstIx_no (fun k => decide ((sgAt (L.take i) k).rl = 77)) i
  have hyes2 := firstIx_yes (fun k => decide ((sgAt (L.take i) k).rl = 77)) i
  generalize firstIx (fun k => decide ((sgAt L k).rl = 77)) L.length = x at *
  generalize firstIx (fun k => decide ((sgAt (L.take i) k).rl = 77)) i = y at *
  have hxi : x ≤ i := by
    rcases Nat.lt_or_ge i x with h' | h'
    · have := hno i h'; simp [h] at this
    · exact h'
  have hx : x < L.length := by omega
  rw [if_pos hx]
  have hxy : x < i → y ≤ x := by
    intro h1
    rcases Nat.lt_or_ge x y with h' | h'
    · have := hno2 x h'
      rw [sgAt_take L i x h1] at this
      rw [hyes hx] at this; cases this
    · exact h'
  have hyx : y < i → x ≤ y := by
    intro h1
    rcases Nat.lt_or_ge y x with h' | h'
    · have := hno y h'
      have h2 := hyes2 h1
      rw [sgAt_take L i y h1] at h2
      rw [h2] at this; cases this
    · exact h'
  constructor
  · intro h1
    have := hxy (by omega)
    rw [if_pos (by omega)]; omega
  · intro h1
    by_cases h2 : y < i
    · have := hyx h2; omega
    · rw [if_neg h2] at h1; omega

theorem errAt_eq (L : List Sg) (sz : Int) (i : Nat) (hi : i < L.length) : errAt L sz i = errR L sz i := by
  have hlen : (L.take i).length = i := by rw [List.length_take]; omega
  unfold errAt errOf errR
  rw [hlen]
  rw [anyIx_congr (f := fun k => decide ((sgAt (L.take i) k).nm = (sgAt L i).nm)) (g := fun k => decide ((sgAt L k).nm = (sgAt L i).nm)) (fun k hk => by rw [sgAt_take L i k hk])]
  rw [anyIx_congr (f := fun k => shareB (sgAt (L.take i) k) (sgAt L i) && meetB (sgAt (L.take i) k).rl (sgAt L i).rl) (g := fun k => meetB (sgAt L k).rl (sgAt L i).rl && shareB (sgAt L k) (sgAt L i)) (fun k hk => by rw [sgAt_take L i k hk, Bool.and_comm])]
  by_cases h : (sgAt L i).rl = 77
  · have hd : isDigB (sgAt L i).rl = false := by rw [h]; rfl
    have := mux_lt L i hi h
    by_cases h2 : muxOf L < i
    · rw [if_pos (c := (sgAt L i).rl = 77 ∧ 0 ≤ muxOf (L.take i)) ⟨h, this.1 h2⟩, if_pos (c := ((sgAt L i).rl = 77 ∧ muxOf L < i) ∨ (isDigB (sgAt L i).rl = true ∧ muxOf L < 0)) (.inl ⟨h, h2⟩)]
    · rw [if_neg (c := (sgAt L i).rl = 77 ∧ 0 ≤ muxOf (L.take i)) (fun x => h2 (this.2 x.2)), if_neg (c := isDigB (sgAt L i).rl = true ∧ muxOf L < 0) (by rw [hd]; simp), if_neg (c := ((sgAt L i).rl = 77 ∧ muxOf L < i) ∨ (isDigB (sgAt L i).rl = true ∧ muxOf L < 0)) (by rw [hd]; rintro (x | x); exact h2 x.2; simp at x)]
  · rw [if_neg (c := (sgAt L i).rl = 77 ∧ 0 ≤ muxOf (L.take i)) (fun x => h x.1)]
    by_cases h2 : isDigB (sgAt L i).rl = true ∧ muxOf L < 0
    · rw [if_pos h2, if_pos (c := ((sgAt L i).rl = 77 ∧ muxOf L < i) ∨ (isDigB (sgAt L i).rl = true ∧ muxOf L < 0)) (.inr h2)]
    · rw [if_neg h2, if_neg (c := ((sgAt L i).rl = 77 ∧ muxOf L < i) ∨ (isDigB (sgAt L i).rl = true ∧ muxOf L < 0)) (by rintro (x | x); exact h x.1; exact h2 x)]

/-- The seven cells of an element of the document's slice of signals. -/
theorem rcells7 {w wr : World} {g k : Nat} {L : List Sg} (hc : ∀ k j, k < L.length → j < 7 → w.cell? ⟨g, k * 7 + j, none⟩ = (sgAt L k).rcells[j]?) (hg : g < w.heap.size) (hb : Below w.heap.size w wr) (hk : k < L.length) :
    wr.cell? ⟨g, k * 7, none⟩ = some (.int .u8 (sgAt L k).nm) ∧ wr.cell? ⟨g, k * 7 + 1, none⟩ = some (.int .i64 (sgAt L k).st) ∧ wr.cell? ⟨g, k * 7 + 2, none⟩ = some (.int .i64 (sgAt L k).ln) ∧
    wr.cell? ⟨g, k * 7 + 3, none⟩ = some (.bool (decide ((sgAt L k).od = 62))) ∧ wr.cell? ⟨g, k * 7 + 4, none⟩ = some (.bool (decide ((sgAt L k).kd = 115))) ∧ wr.cell? ⟨g, k * 7 + 5, none⟩ = some (.int .u8 (sgAt L k).rl) ∧
    wr.cell? ⟨g, k * 7 + 6, none⟩ = some (.int .i64 (sgAt L k).pl) := by
  have h : ∀ j, j < 7 → wr.cell? ⟨g, k * 7 + j, none⟩ = (sgAt L k).rcells[j]? := fun j hj => by
    rw [hb.cell (p := ⟨g, k * 7 + j, none⟩) hg]; exact hc k j hk hj
  exact ⟨h 0 (by omega), h 1 (by omega), h 2 (by omega), h 3 (by omega), h 4 (by omega), h 5 (by omega), h 6 (by omega)⟩

end Go.Proofs.Ytljodhcfimklkab
