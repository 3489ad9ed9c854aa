import Derived.Test.YtljodhcfimklkabC
namespace Go.Proofs.Ytljodhcfimklkab
open Go.RowKit

theorem hide {p : Prop} (h : p) : Hid p := h
theorem unhide {p : Prop} (h : Hid p) : p := h

/-- The first place from k on, n places at the most, at which f says yes; k + n if there is none. -/
def firstFrom (f : Nat → Bool) : Nat → Nat → Nat
  | 0, k => k
  | n + 1, k => if f k then k else firstFrom f n (k + 1)

theorem firstFrom_all (f : Nat → Bool) (n : Nat) : ∀ k, k ≤ firstFrom f n k ∧ firstFrom f n k ≤ k + n ∧ (∀ j, k ≤ j → j < firstFrom f n k → f j = false) ∧ (firstFrom f n k < k + n → f (firstFrom f n k) = true) := by
  induction n with
  | zero => intro k; simp only [firstFrom]; exact ⟨Nat.le_refl _, by omega, fun j h h' => by omega, fun h => by omega⟩
  | succ n ih =>
    intro k
    simp only [firstFrom]
    by_cases h : f k = true
    · rw [if_pos h]; exact ⟨Nat.le_refl _, by omega, fun j h h' => by omega, fun _ => h⟩
    · rw [if_neg h]
      obtain ⟨h1, h2, h3, h4⟩ := ih (k + 1)
      refine ⟨by omega, by omega, fun j hj hj' => ?_, fun hlt => h4 (by omega)⟩
      by_cases e : j = k
      · subst e; simpa using h
      · exact h3 j (by omega) hj'

/-- The first k below n at which f says yes; n if there is none. -/
def firstIx (f : Nat → Bool) (n : Nat) : Nat := firstFrom f n 0

theorem firstIx_le (f : Nat → Bool) (n : Nat) : firstIx f n ≤ n := by have := (firstFrom_all f n 0).2.1; simpa [firstIx] using this
theorem firstIx_no (f : Nat → Bool) (n : Nat) : ∀ j, j < firstIx f n → f j = false := fun j h => (firstFrom_all f n 0).2.2.1 j (Nat.zero_le _) h
theorem firstIx_yes (f : Nat → Bool) (n : Nat) : firstIx f n < n → f (firstIx f n) = true := fun h => (firstFrom_all f n 0).2.2.2 (by rw [Nat.zero_add]; exact h)

theorem firstIx_is {f : Nat → Bool} {n k : Nat} (h0 : ∀ j, j < k → f j = false) (hk : k < n) (h1 : f k = true) : firstIx f n = k := by
  have hle := firstIx_le f n
  rcases Nat.lt_trichotomy (firstIx f n) k with h | h | h
  · have := h0 _ h; rw [firstIx_yes f n (by omega)] at this; cases this
  · exact h
  · have := firstIx_no f n k h; rw [h1] at this; cases this

theorem firstIx_none {f : Nat → Bool} {n : Nat} (h0 : ∀ j, j < n → f j = false) : firstIx f n = n := by
  have hle := firstIx_le f n
  rcases Nat.lt_or_ge (firstIx f n) n with h | h
  · have := h0 _ h; rw [firstIx_yes f n h] at this; cases this
  · omega

/-- The first place at which f says yes, or -1. -/
def findIx (f : Nat → Bool) (n : Nat) : Int := if firstIx f n < n then firstIx f n else -1

theorem findIx_is {f : Nat → Bool} {n k : Nat} (h0 : ∀ j, j < k → f j = false) (hk : k < n) (h1 : f k = true) : findIx f n = k := by
  unfold findIx; rw [firstIx_is h0 hk h1, if_pos hk]
theorem findIx_none {f : Nat → Bool} {n : Nat} (h0 : ∀ j, j < n → f j = false) : findIx f n = -1 := by
  unfold findIx; rw [firstIx_none h0, if_neg (by omega)]
/-- Is there one? -/
def anyIx (f : Nat → Bool) (n : Nat) : Bool := decide (firstIx f n < n)
theorem anyIx_is {f : Nat → Bool} {n k : Nat} (h0 : ∀ j, j < k → f j = false) (hk : k < n) (h1 : f k = true) : anyIx f n = true := by
  unfold anyIx; rw [firstIx_is h0 hk h1]; simpa using hk
theorem anyIx_none {f : Nat → Bool} {n : Nat} (h0 : ∀ j, j < n → f j = false) : anyIx f n = false := by
  unfold anyIx; rw [firstIx_none h0]; simp
theorem anyIx_true {f : Nat → Bool} {n : Nat} : anyIx f n = true ↔ ∃ k, k < n ∧ f k = true := by
  constructor
  · intro h; exact ⟨_, of_decide_eq_true h, firstIx_yes f n (of_decide_eq_true h)⟩
  · intro ⟨k, hk, h⟩
    cases e : anyIx f n with
    | true => rfl
    | false =>
      have h2 : firstIx f n = n := by have := firstIx_le f n; have := of_decide_eq_false e; omega
      have := firstIx_no f n k (by omega); rw [h] at this; cases this

def sgAt (L : List Sg) (k : Nat) : Sg := L.getD k ⟨0, 0, 0, 0, 0, 0, 0⟩
theorem sgAt_eq (L : List Sg) (k : Nat) (h : k < L.length) : sgAt L k = L[k] := by simp [sgAt, h]

/-- The slice value v reads, in w, as the signals L (the program's cells; the document's). -/
def SigsAt (w : World) (v : Value) (L : List Sg) : Prop := w.ownsRow 0 73 7 v L.length (L.flatMap Sg.cells)
def RSigsAt (w : World) (v : Value) (L : List Sg) : Prop := w.ownsRow 0 63 7 v L.length (L.flatMap Sg.rcells)

theorem flat_get {α : Type} (f : α → List Value) (s : Nat) (hf : ∀ a, (f a).length = s) (L : List α) (k j : Nat) (hk : k < L.length) (hj : j < s) : (L.flatMap f)[k * s + j]? = (f L[k])[j]? := by
  induction L generalizing k with
  | nil => simp at hk
  | cons a L ih =>
    rw [List.flatMap_cons]
    cases k with
    | zero => rw [List.getElem?_append_left (by rw [hf]; omega)]; simp
    | succ k =>
      rw [List.getElem?_append_right (by rw [hf, Nat.succ_mul]; omega), hf]
      rw [show (k + 1) * s + j - s = k * s + j from by rw [Nat.succ_mul]; omega, ih k (by simpa using hk)]
      simp

theorem row_cell {w : World} {e s : Nat} {v : Value} {n : Nat} {xs : List Value} (h : w.ownsRow 0 e s v n xs) (i : Nat) (hi : i < n * s) :
    ∃ g cap, v = .slice (some ⟨g, 0, none⟩) n cap ∧ w.cell? ⟨g, i, none⟩ = xs[i]? ∧ g < w.heap.size := by
  obtain ⟨hl, h2⟩ := h
  rcases h2 with ⟨_, rfl⟩ | ⟨g, cap, cur, rfl, _, hg, hnc, _, hcs, ht⟩
  · simp at hi
  · refine ⟨g, cap, rfl, ?_, (Array.getElem?_eq_some_iff.1 hg).1⟩
    rw [cell_of_row w g i cur e (0, 0) hg, ← ht, List.getElem?_take, if_pos hi]; simp

/-- Open a slice of signals: nil and nothing, or a row of cells. -/
theorem SigsAt.opened {w : World} {v : Value} {L : List Sg} (h : SigsAt w v L) :
    (L = [] ∧ (∃ a c, v = .slice a 0 c)) ∨ ∃ g cap, v = .slice (some ⟨g, 0, none⟩) L.length cap ∧ g < w.heap.size ∧ L.length ≤ cap ∧ cap ≤ maxLen ∧
      ∀ k j, k < L.length → j < 7 → w.cell? ⟨g, k * 7 + j, none⟩ = (sgAt L k).cells[j]? := by
  have h' := h
  obtain ⟨hl, h2⟩ := h
  rcases h2 with ⟨rfl, hn⟩ | ⟨g, cap, cur, rfl, _, hg, hnc, hcm, hcs, ht⟩
  · exact .inl ⟨List.eq_nil_of_length_eq_zero hn, _, _, rfl⟩
  · refine .inr ⟨g, cap, rfl, (Array.getElem?_eq_some_iff.1 hg).1, hnc, hcm, fun k j hk hj => ?_⟩
    obtain ⟨g', cap', e1, e2, _⟩ := row_cell h' (k * 7 + j) (by omega)
    cases e1
    rw [e2, flat_get Sg.cells 7 (fun _ => rfl) L k j hk hj, sgAt_eq L k hk]

theorem RSigsAt.opened {w : World} {v : Value} {L : List Sg} (h : RSigsAt w v L) :
    (L = [] ∧ (∃ a c, v = .slice a 0 c)) ∨ ∃ g cap, v = .slice (some ⟨g, 0, none⟩) L.length cap ∧ g < w.heap.size ∧ L.length ≤ cap ∧ cap ≤ maxLen ∧
      ∀ k j, k < L.length → j < 7 → w.cell? ⟨g, k * 7 + j, none⟩ = (sgAt L k).rcells[j]? := by
  have h' := h
  obtain ⟨hl, h2⟩ := h
  rcases h2 with ⟨rfl, hn⟩ | ⟨g, cap, cur, rfl, _, hg, hnc, hcm, hcs, ht⟩
  · exact .inl ⟨List.eq_nil_of_length_eq_zero hn, _, _, rfl⟩
  · refine .inr ⟨g, cap, rfl, (Array.getElem?_eq_some_iff.1 hg).1, hnc, hcm, fun k j hk hj => ?_⟩
    obtain ⟨g', cap', e1, e2, _⟩ := row_cell h' (k * 7 + j) (by omega)
    cases e1
    rw [e2, flat_get Sg.rcells 7 (fun _ => rfl) L k j hk hj, sgAt_eq L k hk]

/-- A row stays while its block does. -/
theorem ownsRow_below {w w' : World} {e s : Nat} {v : Value} {n : Nat} {xs : List Value} (h : w.ownsRow 0 e s v n xs) (hb : Below w.heap.size w w') : w'.ownsRow 0 e s v n xs := by
  refine ⟨h.1, ?_⟩
  rcases h.2 with hn | ⟨g, cap, cur, rfl, h0, hg, r⟩
  · exact .inl hn
  · exact .inr ⟨g, cap, cur, rfl, h0, by rw [hb.block g (Array.getElem?_eq_some_iff.1 hg).1]; exact hg, r⟩

/-- A row cut off behind. -/
theorem ownsRow_take {w : World} {e s : Nat} {a : Option Addr} {n cap : Nat} {xs : List Value} (h : w.ownsRow 0 e s (.slice a n cap) n xs) (m : Nat) (hm : m ≤ n) (hn : 0 < n) : w.ownsRow 0 e s (.slice a m cap) m (xs.take (m * s)) := by
  obtain ⟨hl, h2⟩ := h
  have hms : m * s ≤ n * s := Nat.mul_le_mul_right _ hm
  refine ⟨by rw [List.length_take, hl]; omega, ?_⟩
  rcases h2 with ⟨e1, rfl⟩ | ⟨g, cap', cur, e1, h0, hg, hnc, hcm, hcs, ht⟩
  · omega
  · cases e1
    exact .inr ⟨g, cap, cur, rfl, h0, hg, by omega, hcm, hcs, by rw [← ht, List.take_take]; congr 1; omega⟩

def muxOf (L : List Sg) : Int := findIx (fun k => decide ((sgAt L k).rl = 77)) L.length

set_option maxHeartbeats 400000 in
theorem multiplexor_any (v : Value) (L : List Sg) (w : World) (h : SigsAt w v L) (hl : L.length ≤ 8) :
    Calls Try.prog 12 #[v] w fun e w' => e = .returned (.int .i64 (muxOf L)) ∧ w' = w := by
  rcases h.opened with ⟨rfl, a, c, rfl⟩ | ⟨g, cap, rfl, _, hcap, _, hc⟩
  · go_enter Try.func12, Try.ntmps12
    go_wp2
    refine wp_loop_rounds 1 ?_
    rw [rounds_succ]
    go_wp2
    go_ret
    exact ⟨ret_int (by simp [muxOf, findIx]), rfl⟩
  · have HC := hide hc
    clear hc
    go_enter Try.func12, Try.ntmps12
    go_wp2
    go_loop [3] (fun i => ∃ k : Nat, k ≤ L.length ∧ i = .int .i64 k ∧ ∀ j, j < k → decide ((sgAt L j).rl = 77) = false) (fun i => L.length - (intOf i).toNat)
    case atStart => exact ⟨0, by omega, rfl, by intro j hj; omega⟩
    case round =>
      obtain ⟨k, hk, rfl, hno⟩ := hrel
      have HN := hide hno
      clear hno
      by_cases hlt : k < L.length
      · have hc6 : w.cell? ⟨g, k * 7 + 6, none⟩ = some (.int .u8 (sgAt L k).rl) := (unhide HC) k 6 hlt (by omega)
        by_cases hm : (sgAt L k).rl = 77
        · have hmb : ((sgAt L k).rl == 77) = true := by simp [hm]
          have HM := hide hm
          clear hm
          go_wp2
          go_ret
          exact ⟨ret_int (by rw [muxOf, findIx_is (unhide HN) hlt (by simpa using unhide HM)]), rfl⟩
        · have hmb : ((sgAt L k).rl == 77) = false := by simp [hm]
          have HM := hide hm
          clear hm
          go_wp2
          go_round
          case rel => exact ⟨k + 1, by omega, by go_num, fun j hj => by
            by_cases e : j = k
            · subst e; simpa using unhide HM
            · exact unhide HN j (by omega)⟩
          case measure => simp [intOf]; omega
      · go_wp2
        go_ret
        exact ⟨ret_int (by rw [muxOf, findIx_none (fun j hj => unhide HN j (by omega))]), rfl⟩

end Go.Proofs.Ytljodhcfimklkab
