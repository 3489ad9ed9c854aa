import Derived.Test.YtoihlnjcgopdlabProg
import Derived.WalkKit
import Derived.WalkSpells
import Derived.WalkLawsBesides
import Derived.Deep.RegionHeld3
namespace Go.Proofs.Ytoihlnjcgopdlab
open Go.RowKit

theorem ret_bool {a b : Bool} (h : a = b) : Ending.returned (.bool a) = .returned (.bool b) := by rw [h]
theorem ret_int {k : IntKind} {a b : Int} (h : a = b) : Ending.returned (.int k a) = .returned (.int k b) := by rw [h]

/-- A digit. -/
def isDigB (c : Int) : Bool := decide (48 ≤ c) && decide (c ≤ 57)
def isHexB (c : Int) : Bool := isDigB c || (decide (65 ≤ c) && decide (c ≤ 70))
/-- May c stand at place i of an id and a size? -/
def headB (i : Int) (c : Int) : Bool :=
  if i = 0 then decide (48 ≤ c) && decide (c ≤ 55) else if i = 3 then decide (48 ≤ c) && decide (c ≤ 56) else isHexB c
/-- May c stand at place i of a signal, behind p? -/
def sigB (i p c : Int) : Bool :=
  if i = 0 then decide (c = 44) else
  if i = 1 then decide (97 ≤ c) && decide (c ≤ 122) else
  if i = 2 then decide (48 ≤ c) && decide (c ≤ 54) else
  if i = 3 then isDigB c && (decide (p ≠ 54) || decide (c ≤ 51)) else
  if i = 4 then decide (48 ≤ c) && decide (c ≤ 51) else
  if i = 5 then isDigB c && (decide (p ≠ 48) || decide (49 ≤ c)) && (decide (p ≠ 51) || decide (c ≤ 50)) else
  if i = 6 then decide (c = 60) || decide (c = 62) else
  if i = 7 then decide (c = 117) || decide (c = 115) else
  decide (c = 45) || decide (c = 77) || isDigB c

set_option maxHeartbeats 400000 in
theorem isDigit_any (c : Int) (w : World) :
    Calls Try.prog 95 #[.int .u8 c] w fun e w' => e = .returned (.bool (isDigB c)) ∧ w' = w := by
  go_enter Try.func95, Try.ntmps95
  go_wp2
  all_goals (go_ret; exact ⟨ret_bool (by rw [Bool.eq_iff_iff]; simp [isDigB]; try omega), rfl⟩)

set_option maxHeartbeats 400000 in
theorem rIsDigit_any (c : Int) (w : World) :
    Calls Try.prog 46 #[.int .u8 c] w fun e w' => e = .returned (.bool (isDigB c)) ∧ w' = w := by
  go_enter Try.func46, Try.ntmps46
  go_wp2
  all_goals (go_ret; exact ⟨ret_bool (by rw [Bool.eq_iff_iff]; simp [isDigB]; try omega), rfl⟩)

set_option maxHeartbeats 400000 in
theorem headAllows_any (i c : Int) (w : World) (h0 : 0 ≤ i) (h1 : i ≤ 3) :
    Calls Try.prog 58 #[.int .i64 i, .int .u8 c] w fun e w' => e = .returned (.bool (headB i c)) ∧ w' = w := by
  obtain rfl | rfl | rfl | rfl : i = 0 ∨ i = 1 ∨ i = 2 ∨ i = 3 := by omega
  all_goals
    go_enter Try.func58, Try.ntmps58
    go_wp2
    all_goals (go_ret; exact ⟨ret_bool (by rw [Bool.eq_iff_iff]; simp [headB, isHexB, isDigB]; try omega), rfl⟩)

set_option maxHeartbeats 400000 in
theorem rIsHex_any (c : Int) (w : World) :
    Calls Try.prog 65 #[.int .u8 c] w fun e w' => e = .returned (.bool (isHexB c)) ∧ w' = w := by
  go_enter Try.func65, Try.ntmps65
  go_wp2
  all_goals (go_ret; exact ⟨ret_bool (by rw [Bool.eq_iff_iff]; simp [isHexB, isDigB]; try omega), rfl⟩)

set_option maxHeartbeats 400000 in
theorem rHeaded_any (i c : Int) (w : World) (h0 : 0 ≤ i) (h1 : i ≤ 3) :
    Calls Try.prog 64 #[.int .i64 i, .int .u8 c] w fun e w' => e = .returned (.bool (headB i c)) ∧ w' = w := by
  obtain rfl | rfl | rfl | rfl : i = 0 ∨ i = 1 ∨ i = 2 ∨ i = 3 := by omega
  all_goals
    go_enter Try.func64, Try.ntmps64
    go_wp2
    all_goals (go_ret; exact ⟨ret_bool (by rw [Bool.eq_iff_iff]; simp [headB, isHexB, isDigB]; try omega), rfl⟩)

set_option maxHeartbeats 1000000 in
theorem signalAllows_any (i p c : Int) (w : World) (h0 : 0 ≤ i) (h1 : i ≤ 8) :
    Calls Try.prog 107 #[.int .i64 i, .int .u8 p, .int .u8 c] w fun e w' => e = .returned (.bool (sigB i p c)) ∧ w' = w := by
  obtain rfl | rfl | rfl | rfl | rfl | rfl | rfl | rfl | rfl : i = 0 ∨ i = 1 ∨ i = 2 ∨ i = 3 ∨ i = 4 ∨ i = 5 ∨ i = 6 ∨ i = 7 ∨ i = 8 := by omega
  all_goals
    go_enter Try.func107, Try.ntmps107
    go_wp2
    all_goals (go_ret; exact ⟨ret_bool (by rw [Bool.eq_iff_iff]; simp_all [sigB, isDigB]; try omega), rfl⟩)

end Go.Proofs.Ytoihlnjcgopdlab

namespace Go.Proofs.Ytoihlnjcgopdlab
open Go.RowKit

set_option maxHeartbeats 1000000 in
theorem rSigned_any (i p c : Int) (w : World) (h0 : 0 ≤ i) (h1 : i ≤ 8) :
    Calls Try.prog 100 #[.int .i64 i, .int .u8 p, .int .u8 c] w fun e w' => e = .returned (.bool (sigB i p c)) ∧ w' = w := by
  obtain rfl | rfl | rfl | rfl | rfl | rfl | rfl | rfl | rfl : i = 0 ∨ i = 1 ∨ i = 2 ∨ i = 3 ∨ i = 4 ∨ i = 5 ∨ i = 6 ∨ i = 7 ∨ i = 8 := by omega
  all_goals
    go_enter Try.func100, Try.ntmps100
    go_wp2
    all_goals (go_ret; exact ⟨ret_bool (by rw [Bool.eq_iff_iff]; simp_all [sigB, isDigB]; try omega), rfl⟩)

/-- The worth of a digit of base 16. -/
def worth (c : Int) : Int := if 65 ≤ c then c - 55 else c - 48

set_option maxHeartbeats 400000 in
theorem digitWorth_any (c : Int) (w : World) (h0 : 0 ≤ c) (h1 : c ≤ 255) :
    Calls Try.prog 59 #[.int .u8 c] w fun e w' => e = .returned (.int .i64 (worth c)) ∧ w' = w := by
  by_cases h : 65 ≤ c
  all_goals
    go_enter Try.func59, Try.ntmps59
    go_wp2
    all_goals (go_ret; exact ⟨ret_int (by simp [worth, h]; try omega), rfl⟩)

set_option maxHeartbeats 400000 in
theorem rPair_any (a b : Int) (w : World) (h0 : 48 ≤ a) (h1 : a ≤ 57) (h2 : 48 ≤ b) (h3 : b ≤ 57) :
    Calls Try.prog 101 #[.int .u8 a, .int .u8 b] w fun e w' => e = .returned (.int .i64 (10 * worth a + worth b)) ∧ w' = w := by
  go_enter Try.func101, Try.ntmps101
  go_wp2
  all_goals (go_ret; exact ⟨ret_int (by rw [worth, worth, if_neg (by omega), if_neg (by omega)]; simp; try omega), rfl⟩)

/-- The place as far from its byte's high end as p is from the low one. -/
def mir (p : Int) : Int := p - p % 8 + 7 - p % 8

set_option maxHeartbeats 400000 in
theorem mirrored_any (p : Int) (w : World) (h0 : 0 ≤ p) (h1 : p ≤ 1000) :
    Calls Try.prog 102 #[.int .i64 p] w fun e w' => e = .returned (.int .i64 (mir p)) ∧ w' = w := by
  go_enter Try.func102, Try.ntmps102
  go_wp2
  all_goals (go_ret; exact ⟨ret_int (by simp [mir]; try omega), rfl⟩)

end Go.Proofs.Ytoihlnjcgopdlab

namespace Go.Proofs.Ytoihlnjcgopdlab
open Go.RowKit

/-- A signal of the text. -/
structure Sg where
  pl : Int
  nm : Int
  st : Int
  ln : Int
  od : Int
  kd : Int
  rl : Int

/-- What a reader makes of a signal is within these bounds. -/
structure Sg.Ok (s : Sg) : Prop where
  st0 : 0 ≤ s.st
  st1 : s.st ≤ 63
  ln0 : 1 ≤ s.ln
  ln1 : s.ln ≤ 32
  od : s.od = 60 ∨ s.od = 62
  kd : s.kd = 117 ∨ s.kd = 115

/-- The program's cells of it, and the document's. -/
def Sg.cells (s : Sg) : List Value := [.int .i64 s.pl, .int .u8 s.nm, .int .i64 s.st, .int .i64 s.ln, .int .u8 s.od, .int .u8 s.kd, .int .u8 s.rl]
def Sg.rcells (s : Sg) : List Value := [.int .u8 s.nm, .int .i64 s.st, .int .i64 s.ln, .bool (decide (s.od = 62)), .bool (decide (s.kd = 115)), .int .u8 s.rl, .int .i64 s.pl]

/-- Where bit i of a signal lies. -/
def place (st ln od i : Int) : Int := if od = 60 then st + i else mir (mir st + ln - 1 - i)

set_option maxHeartbeats 400000 in
theorem bitPlace_any (a0 a1 st ln od a5 a6 i : Int) (w : World) (h0 : 0 ≤ st) (h1 : st ≤ 63) (h2 : 1 ≤ ln) (h3 : ln ≤ 32) (h4 : od = 60 ∨ od = 62) (h5 : 0 ≤ i) (h6 : i < ln) :
    Calls Try.prog 96 #[.agg #[.int .i64 a0, .int .u8 a1, .int .i64 st, .int .i64 ln, .int .u8 od, .int .u8 a5, .int .u8 a6], .int .i64 i] w
      fun e w' => e = .returned (.int .i64 (place st ln od i)) ∧ Below w.heap.size w w' := by
  rcases h4 with rfl | rfl
  · go_enter Try.func96, Try.ntmps96
    go_wp2
    go_ret
    exact ⟨ret_int (by simp [place]), (Below.refl _ _).alloc (Nat.le_refl _) _⟩
  · have hm : 0 ≤ mir st ∧ mir st ≤ 63 := by unfold mir; omega
    obtain ⟨hm0, hm1⟩ := hm
    go_enter Try.func96, Try.ntmps96
    go_wp2_with (go_at_call 102; refine (mirrored_any _ _ (by omega) (by omega)).mono ?_; rintro e w' ⟨rfl, rfl⟩)
    go_ret
    exact ⟨ret_int (by simp [place]), (Below.refl _ _).alloc (Nat.le_refl _) _⟩

theorem mir_step (p n : Int) : (if mir (mir p + n) % 8 = 0 then mir (mir p + n) + 15 else mir (mir p + n) - 1) = mir (mir p + (n + 1)) := by
  unfold mir
  split <;> omega

theorem mir_mir (p : Int) : mir (mir p) = p := by unfold mir; omega

set_option maxHeartbeats 1000000 in
theorem rBit_any (a0 st ln a5 a6 i : Int) (od kd : Int) (w : World) (h0 : 0 ≤ st) (h1 : st ≤ 63) (h2 : 1 ≤ ln) (h3 : ln ≤ 32) (h4 : od = 60 ∨ od = 62) (h5 : 0 ≤ i) (h6 : i < ln) :
    Calls Try.prog 56 #[.agg #[.int .u8 a0, .int .i64 st, .int .i64 ln, .bool (decide (od = 62)), .bool (decide (kd = 115)), .int .u8 a5, .int .i64 a6], .int .i64 i] w
      fun e w' => e = .returned (.int .i64 (place st ln od i)) ∧ Below w.heap.size w w' := by
  generalize decide (kd = 115) = kb
  rcases h4 with rfl | rfl
  · go_enter Try.func56, Try.ntmps56
    go_wp2
    go_ret
    exact ⟨ret_int (by simp [place]), (Below.refl _ _).alloc (Nat.le_refl _) _⟩
  · go_enter Try.func56, Try.ntmps56
    go_wp2
    go_loop [5, 6] (fun t k => ∃ n : Nat, (n : Int) ≤ ln - 1 - i ∧ k = .int .i64 (ln - 1 - n) ∧ t = .int .i64 (mir (mir st + n))) (fun _ k => (intOf k).toNat)
    case atStart => exact ⟨0, by omega, by simp, by simp [mir_mir st]⟩
    case round =>
      obtain ⟨n, hn, rfl, rfl⟩ := hrel
      have HS : Hid (_ = _) := mir_step st n
      have hb : 0 ≤ mir (mir st + n) ∧ mir (mir st + n) ≤ 200 := by unfold mir; omega
      obtain ⟨hb0, hb1⟩ := hb
      by_cases hlt : i < ln - 1 - n
      · by_cases hz : mir (mir st + n) % 8 = 0
        · go_wp2
          go_round
          case rel => exact ⟨n + 1, by omega, by go_num, by have := HS.out; rw [if_pos hz] at this; rw [this]; go_num⟩
          case measure => simp [intOf]; omega
        · go_wp2
          go_round
          case rel => exact ⟨n + 1, by omega, by go_num, by have := HS.out; rw [if_neg hz] at this; rw [this]; go_num⟩
          case measure => simp [intOf]; omega
      · have he : (n : Int) = ln - 1 - i := by omega
        go_wp2
        go_ret
        exact ⟨ret_int (by simp only [place]; rw [if_neg (by omega)]; congr 1; omega), (Below.refl _ _).alloc (Nat.le_refl _) _⟩

end Go.Proofs.Ytoihlnjcgopdlab

namespace Go.Proofs.Ytoihlnjcgopdlab
open Go.RowKit

theorem hide {p : Prop} (h : p) : Hid p := h
theorem unhide {p : Prop} (h : Hid p) : p := h

/-- The first place from k on, n places at the most, at which f says yes; k + n if there is none. -/
def firstFrom (f : Nat → Bool) : Nat → Nat → Nat
  | 0, k => k
  | n + 1, k => if f k then k else firstFrom f n (k + 1)

theorem firstFrom_all (f : Nat → Bool) (n : Nat) : ∀ k, k ≤ firstFrom f n k ∧ firstFrom f n k ≤ k + n ∧ (∀ j, k ≤ j → j < firstFrom f n k → f j = false) ∧ (firstFrom f n k < k + n → f (firstFrom f n k) = true) := by
  induction n with
  | zero => intro k; simp only [firstFrom]; exact ⟨Nat.le_refl _, by omega, fun j h h' => by omega, fun h => by omega⟩
  | succ n ih =>
    intro k
    simp only [firstFrom]
    by_cases h : f k = true
    · rw [if_pos h]; exact ⟨Nat.le_refl _, by omega, fun j h h' => by omega, fun _ => h⟩
    · rw [if_neg h]
      obtain ⟨h1, h2, h3, h4⟩ := ih (k + 1)
      refine ⟨by omega, by omega, fun j hj hj' => ?_, fun hlt => h4 (by omega)⟩
      by_cases e : j = k
      · subst e; simpa using h
      · exact h3 j (by omega) hj'

/-- The first k below n at which f says yes; n if there is none. -/
def firstIx (f : Nat → Bool) (n : Nat) : Nat := firstFrom f n 0

theorem firstIx_le (f : Nat → Bool) (n : Nat) : firstIx f n ≤ n := by have := (firstFrom_all f n 0).2.1; simpa [firstIx] using this
theorem firstIx_no (f : Nat → Bool) (n : Nat) : ∀ j, j < firstIx f n → f j = false := fun j h => (firstFrom_all f n 0).2.2.1 j (Nat.zero_le _) h
theorem firstIx_yes (f : Nat → Bool) (n : Nat) : firstIx f n < n → f (firstIx f n) = true := fun h => (firstFrom_all f n 0).2.2.2 (by rw [Nat.zero_add]; exact h)

theorem firstIx_is {f : Nat → Bool} {n k : Nat} (h0 : ∀ j, j < k → f j = false) (hk : k < n) (h1 : f k = true) : firstIx f n = k := by
  have hle := firstIx_le f n
  rcases Nat.lt_trichotomy (firstIx f n) k with h | h | h
  · have := h0 _ h; rw [firstIx_yes f n (by omega)] at this; cases this
  · exact h
  · have := firstIx_no f n k h; rw [h1] at this; cases this

theorem firstIx_none {f : Nat → Bool} {n : Nat} (h0 : ∀ j, j < n → f j = false) : firstIx f n = n := by
  have hle := firstIx_le f n
  rcases Nat.lt_or_ge (firstIx f n) n with h | h
  · have := h0 _ h; rw [firstIx_yes f n h] at this; cases this
  · omega

/-- The first place at which f says yes, or -1. -/
def findIx (f : Nat → Bool) (n : Nat) : Int := if firstIx f n < n then firstIx f n else -1

theorem findIx_is {f : Nat → Bool} {n k : Nat} (h0 : ∀ j, j < k → f j = false) (hk : k < n) (h1 : f k = true) : findIx f n = k := by
  unfold findIx; rw [firstIx_is h0 hk h1, if_pos hk]
theorem findIx_none {f : Nat → Bool} {n : Nat} (h0 : ∀ j, j < n → f j = false) : findIx f n = -1 := by
  unfold findIx; rw [firstIx_none h0, if_neg (by omega)]
/-- Is there one? -/
def anyIx (f : Nat → Bool) (n : Nat) : Bool := decide (firstIx f n < n)
theorem anyIx_is {f : Nat → Bool} {n k : Nat} (h0 : ∀ j, j < k → f j = false) (hk : k < n) (h1 : f k = true) : anyIx f n = true := by
  unfold anyIx; rw [firstIx_is h0 hk h1]; simpa using hk
theorem anyIx_none {f : Nat → Bool} {n : Nat} (h0 : ∀ j, j < n → f j = false) : anyIx f n = false := by
  unfold anyIx; rw [firstIx_none h0]; simp
theorem anyIx_true {f : Nat → Bool} {n : Nat} : anyIx f n = true ↔ ∃ k, k < n ∧ f k = true := by
  constructor
  · intro h; exact ⟨_, of_decide_eq_true h, firstIx_yes f n (of_decide_eq_true h)⟩
  · intro ⟨k, hk, h⟩
    cases e : anyIx f n with
    | true => rfl
    | false =>
      have h2 : firstIx f n = n := by have := firstIx_le f n; have := of_decide_eq_false e; omega
      have := firstIx_no f n k (by omega); rw [h] at this; cases this

def sgAt (L : List Sg) (k : Nat) : Sg := L.getD k ⟨0, 0, 0, 0, 0, 0, 0⟩
theorem sgAt_eq (L : List Sg) (k : Nat) (h : k < L.length) : sgAt L k = L[k] := by simp [sgAt, h]

/-- The slice value v reads, in w, as the signals L (the program's cells; the document's). -/
def SigsAt (w : World) (v : Value) (L : List Sg) : Prop := w.ownsRow 0 117 7 v L.length (L.flatMap Sg.cells)
def RSigsAt (w : World) (v : Value) (L : List Sg) : Prop := w.ownsRow 0 78 7 v L.length (L.flatMap Sg.rcells)

theorem flat_get {α : Type} (f : α → List Value) (s : Nat) (hf : ∀ a, (f a).length = s) (L : List α) (k j : Nat) (hk : k < L.length) (hj : j < s) : (L.flatMap f)[k * s + j]? = (f L[k])[j]? := by
  induction L generalizing k with
  | nil => simp at hk
  | cons a L ih =>
    rw [List.flatMap_cons]
    cases k with
    | zero => rw [List.getElem?_append_left (by rw [hf]; omega)]; simp
    | succ k =>
      rw [List.getElem?_append_right (by rw [hf, Nat.succ_mul]; omega), hf]
      rw [show (k + 1) * s + j - s = k * s + j from by rw [Nat.succ_mul]; omega, ih k (by simpa using hk)]
      simp

theorem row_cell {w : World} {e s : Nat} {v : Value} {n : Nat} {xs : List Value} (h : w.ownsRow 0 e s v n xs) (i : Nat) (hi : i < n * s) :
    ∃ g cap, v = .slice (some ⟨g, 0, none⟩) n cap ∧ w.cell? ⟨g, i, none⟩ = xs[i]? ∧ g < w.heap.size := by
  obtain ⟨hl, h2⟩ := h
  rcases h2 with ⟨_, rfl⟩ | ⟨g, cap, cur, rfl, _, hg, hnc, _, hcs, ht⟩
  · simp at hi
  · refine ⟨g, cap, rfl, ?_, (Array.getElem?_eq_some_iff.1 hg).1⟩
    rw [cell_of_row w g i cur e (0, 0) hg, ← ht, List.getElem?_take, if_pos hi]; simp

/-- Open a slice of signals: nil and nothing, or a row of cells. -/
theorem SigsAt.opened {w : World} {v : Value} {L : List Sg} (h : SigsAt w v L) :
    (L = [] ∧ (∃ a c, v = .slice a 0 c)) ∨ ∃ g cap, v = .slice (some ⟨g, 0, none⟩) L.length cap ∧ g < w.heap.size ∧ L.length ≤ cap ∧ cap ≤ maxLen ∧
      ∀ k j, k < L.length → j < 7 → w.cell? ⟨g, k * 7 + j, none⟩ = (sgAt L k).cells[j]? := by
  have h' := h
  obtain ⟨hl, h2⟩ := h
  rcases h2 with ⟨rfl, hn⟩ | ⟨g, cap, cur, rfl, _, hg, hnc, hcm, hcs, ht⟩
  · exact .inl ⟨List.eq_nil_of_length_eq_zero hn, _, _, rfl⟩
  · refine .inr ⟨g, cap, rfl, (Array.getElem?_eq_some_iff.1 hg).1, hnc, hcm, fun k j hk hj => ?_⟩
    obtain ⟨g', cap', e1, e2, _⟩ := row_cell h' (k * 7 + j) (by omega)
    cases e1
    rw [e2, flat_get Sg.cells 7 (fun _ => rfl) L k j hk hj, sgAt_eq L k hk]

theorem RSigsAt.opened {w : World} {v : Value} {L : List Sg} (h : RSigsAt w v L) :
    (L = [] ∧ (∃ a c, v = .slice a 0 c)) ∨ ∃ g cap, v = .slice (some ⟨g, 0, none⟩) L.length cap ∧ g < w.heap.size ∧ L.length ≤ cap ∧ cap ≤ maxLen ∧
      ∀ k j, k < L.length → j < 7 → w.cell? ⟨g, k * 7 + j, none⟩ = (sgAt L k).rcells[j]? := by
  have h' := h
  obtain ⟨hl, h2⟩ := h
  rcases h2 with ⟨rfl, hn⟩ | ⟨g, cap, cur, rfl, _, hg, hnc, hcm, hcs, ht⟩
  · exact .inl ⟨List.eq_nil_of_length_eq_zero hn, _, _, rfl⟩
  · refine .inr ⟨g, cap, rfl, (Array.getElem?_eq_some_iff.1 hg).1, hnc, hcm, fun k j hk hj => ?_⟩
    obtain ⟨g', cap', e1, e2, _⟩ := row_cell h' (k * 7 + j) (by omega)
    cases e1
    rw [e2, flat_get Sg.rcells 7 (fun _ => rfl) L k j hk hj, sgAt_eq L k hk]

/-- A row stays while its block does. -/
theorem ownsRow_below {w w' : World} {e s : Nat} {v : Value} {n : Nat} {xs : List Value} (h : w.ownsRow 0 e s v n xs) (hb : Below w.heap.size w w') : w'.ownsRow 0 e s v n xs := by
  refine ⟨h.1, ?_⟩
  rcases h.2 with hn | ⟨g, cap, cur, rfl, h0, hg, r⟩
  · exact .inl hn
  · exact .inr ⟨g, cap, cur, rfl, h0, by rw [hb.block g (Array.getElem?_eq_some_iff.1 hg).1]; exact hg, r⟩

/-- A row cut off behind. -/
theorem ownsRow_take {w : World} {e s : Nat} {a : Option Addr} {n cap : Nat} {xs : List Value} (h : w.ownsRow 0 e s (.slice a n cap) n xs) (m : Nat) (hm : m ≤ n) (hn : 0 < n) : w.ownsRow 0 e s (.slice a m cap) m (xs.take (m * s)) := by
  obtain ⟨hl, h2⟩ := h
  have hms : m * s ≤ n * s := Nat.mul_le_mul_right _ hm
  refine ⟨by rw [List.length_take, hl]; omega, ?_⟩
  rcases h2 with ⟨e1, rfl⟩ | ⟨g, cap', cur, e1, h0, hg, hnc, hcm, hcs, ht⟩
  · omega
  · cases e1
    exact .inr ⟨g, cap, cur, rfl, h0, hg, by omega, hcm, hcs, by rw [← ht, List.take_take]; congr 1; omega⟩

def muxOf (L : List Sg) : Int := findIx (fun k => decide ((sgAt L k).rl = 77)) L.length

set_option maxHeartbeats 400000 in
theorem multiplexor_any (v : Value) (L : List Sg) (w : World) (h : SigsAt w v L) (hl : L.length ≤ 8) :
    Calls Try.prog 48 #[v] w fun e w' => e = .returned (.int .i64 (muxOf L)) ∧ w' = w := by
  rcases h.opened with ⟨rfl, a, c, rfl⟩ | ⟨g, cap, rfl, _, hcap, _, hc⟩
  · go_enter Try.func48, Try.ntmps48
    go_wp2
    refine wp_loop_rounds 1 ?_
    rw [rounds_succ]
    go_wp2
    go_ret
    exact ⟨ret_int (by simp [muxOf, findIx]), rfl⟩
  · have HC := hide hc
    clear hc
    go_enter Try.func48, Try.ntmps48
    go_wp2
    go_loop [3] (fun i => ∃ k : Nat, k ≤ L.length ∧ i = .int .i64 k ∧ ∀ j, j < k → decide ((sgAt L j).rl = 77) = false) (fun i => L.length - (intOf i).toNat)
    case atStart => exact ⟨0, by omega, rfl, by intro j hj; omega⟩
    case round =>
      obtain ⟨k, hk, rfl, hno⟩ := hrel
      have HN := hide hno
      clear hno
      by_cases hlt : k < L.length
      · have hc6 : w.cell? ⟨g, k * 7 + 6, none⟩ = some (.int .u8 (sgAt L k).rl) := (unhide HC) k 6 hlt (by omega)
        by_cases hm : (sgAt L k).rl = 77
        · have hmb : ((sgAt L k).rl == 77) = true := by simp [hm]
          have HM := hide hm
          clear hm
          go_wp2
          go_ret
          exact ⟨ret_int (by rw [muxOf, findIx_is (unhide HN) hlt (by simpa using unhide HM)]), rfl⟩
        · have hmb : ((sgAt L k).rl == 77) = false := by simp [hm]
          have HM := hide hm
          clear hm
          go_wp2
          go_round
          case rel => exact ⟨k + 1, by omega, by go_num, fun j hj => by
            by_cases e : j = k
            · subst e; simpa using unhide HM
            · exact unhide HN j (by omega)⟩
          case measure => simp [intOf]; omega
      · go_wp2
        go_ret
        exact ⟨ret_int (by rw [muxOf, findIx_none (fun j hj => unhide HN j (by omega))]), rfl⟩

end Go.Proofs.Ytoihlnjcgopdlab

namespace Go.Proofs.Ytoihlnjcgopdlab
open Go.RowKit

/-- Byte k of a text, as a number. -/
def bt (s : ByteArray) (k : Nat) : Int := if h : k < s.size then (s[k].toNat : Int) else 0
theorem bt_of {s : ByteArray} {k : Nat} (h : k < s.size) : (s[k].toNat : Int) = bt s k := by simp [bt, h]
theorem bt_lo (s : ByteArray) (k : Nat) : 0 ≤ bt s k := by unfold bt; split <;> omega
theorem bt_hi (s : ByteArray) (k : Nat) : bt s k ≤ 255 := by
  unfold bt
  split
  · have := (s[k]).toNat_lt; omega
  · omega

/-- Byte k of the head (the signal) at i is right. -/
def headOk (s : ByteArray) (i k : Nat) : Bool := decide (i + k < s.size) && headB k (bt s (i + k))
def befB (s : ByteArray) (i k : Nat) : Int := if k = 0 then 0 else bt s (i + k - 1)
def sigOk (s : ByteArray) (i k : Nat) : Bool := decide (i + k < s.size) && sigB k (befB s i k) (bt s (i + k))
/-- How many bytes from i on are right ones of a head, of a signal. -/
def nHead (s : ByteArray) (i : Nat) : Nat := firstIx (fun k => !headOk s i k) 4
def nSig (s : ByteArray) (i : Nat) : Nat := firstIx (fun k => !sigOk s i k) 9

theorem not_false_of {b : Bool} (h : b = true) : (!b) = false := by simp [h]

set_option maxHeartbeats 400000 in
theorem rightHead_any (s : ByteArray) (i : Nat) (w : World) (hs : s.size ≤ 320) (hi : i ≤ 1000) :
    Calls Try.prog 103 #[.string s, .int .i64 i] w fun e w' => e = .returned (.int .i64 (nHead s i)) ∧ w' = w := by
  go_enter Try.func103, Try.ntmps103
  go_wp2
  go_loop [5] (fun r => ∃ k : Nat, k ≤ 4 ∧ r = .int .i64 k ∧ ∀ j, j < k → (!headOk s i j) = false) (fun r => 4 - (intOf r).toNat)
  case atStart => exact ⟨0, by omega, rfl, by intro j hj; omega⟩
  case round =>
    obtain ⟨k, hk, rfl, hno⟩ := hrel
    have HN := hide hno
    clear hno
    by_cases hlt : k < 4
    · by_cases h2 : i + k < s.size
      · have e := bt_of h2
        cases hb : headB k (bt s (i + k)) with
        | false =>
          have hv : headB k (s[i + k].toNat : Int) = false := by rw [e]; exact hb
          have HK := hide (show (!headOk s i k) = true by simp [headOk, hb])
          clear e hb
          go_wp2_with (go_at_call 58; refine (headAllows_any _ _ _ (by omega) (by omega)).mono ?_; rintro e w' ⟨rfl, rfl⟩)
          go_ret
          exact ⟨ret_int (by rw [nHead, firstIx_is (unhide HN) hlt (unhide HK)]), rfl⟩
        | true =>
          have hv : headB k (s[i + k].toNat : Int) = true := by rw [e]; exact hb
          have HK := hide (show (!headOk s i k) = false by simp [headOk, hb, h2])
          clear e hb
          go_wp2_with (go_at_call 58; refine (headAllows_any _ _ _ (by omega) (by omega)).mono ?_; rintro e w' ⟨rfl, rfl⟩)
          go_round
          case rel => exact ⟨k + 1, by omega, by go_num, fun j hj => by
            by_cases e : j = k
            · subst e; exact unhide HK
            · exact unhide HN j (by omega)⟩
          case measure => simp [intOf]; omega
      · have HK := hide (show (!headOk s i k) = true by simp [headOk, h2])
        go_wp2
        go_ret
        exact ⟨ret_int (by rw [nHead, firstIx_is (unhide HN) hlt (unhide HK)]), rfl⟩
    · go_wp2
      go_ret
      exact ⟨ret_int (by rw [nHead, firstIx_none (fun j hj => unhide HN j (by omega))]; omega), rfl⟩

set_option maxHeartbeats 400000 in
theorem rightSig_any (s : ByteArray) (i : Nat) (w : World) (hs : s.size ≤ 320) (hi : i ≤ 1000) :
    Calls Try.prog 104 #[.string s, .int .i64 i] w fun e w' => e = .returned (.int .i64 (nSig s i)) ∧ w' = w := by
  go_enter Try.func104, Try.ntmps104
  go_wp2
  go_loop [5, 6, 7] (fun r b _ => ∃ k : Nat, k ≤ 9 ∧ r = .int .i64 k ∧ b = .int .u8 (befB s i k) ∧ ∀ j, j < k → (!sigOk s i j) = false) (fun r _ _ => 9 - (intOf r).toNat)
  case atStart => exact ⟨0, by omega, rfl, rfl, by intro j hj; omega⟩
  case round =>
    obtain ⟨k, hk, rfl, rfl, hno⟩ := hrel
    have HN := hide hno
    clear hno
    by_cases hlt : k < 9
    · by_cases h2 : i + k < s.size
      · have e := bt_of h2
        cases hb : sigB k (befB s i k) (bt s (i + k)) with
        | false =>
          have hv : sigB k (befB s i k) (s[i + k].toNat : Int) = false := by rw [e]; exact hb
          have HK := hide (show (!sigOk s i k) = true by simp [sigOk, hb])
          clear e hb
          go_wp2_with (go_at_call 107; refine (signalAllows_any _ _ _ _ (by omega) (by omega)).mono ?_; rintro e w' ⟨rfl, rfl⟩)
          go_ret
          exact ⟨ret_int (by rw [nSig, firstIx_is (unhide HN) hlt (unhide HK)]), rfl⟩
        | true =>
          have hv : sigB k (befB s i k) (s[i + k].toNat : Int) = true := by rw [e]; exact hb
          have HK := hide (show (!sigOk s i k) = false by simp [sigOk, hb, h2])
          have HB := hide (show (s[i + k].toNat : Int) = befB s i (k + 1) by rw [e, befB, if_neg (by omega)]; rfl)
          clear e hb
          go_wp2_with (go_at_call 107; refine (signalAllows_any _ _ _ _ (by omega) (by omega)).mono ?_; rintro e w' ⟨rfl, rfl⟩)
          go_round
          case rel => exact ⟨k + 1, by omega, by go_num, by rw [← unhide HB], fun j hj => by
            by_cases e : j = k
            · subst e; exact unhide HK
            · exact unhide HN j (by omega)⟩
          case measure => simp [intOf]; omega
      · have HK := hide (show (!sigOk s i k) = true by simp [sigOk, h2])
        go_wp2
        go_ret
        exact ⟨ret_int (by rw [nSig, firstIx_is (unhide HN) hlt (unhide HK)]), rfl⟩
    · go_wp2
      go_ret
      exact ⟨ret_int (by rw [nSig, firstIx_none (fun j hj => unhide HN j (by omega))]; omega), rfl⟩

/-- The number that a text is as an id, -1 if it is none. -/
def idTo (s : ByteArray) : Nat → Int
  | 0 => 0
  | k + 1 => 16 * idTo s k + worth (bt s k)
def idBad (s : ByteArray) : Bool := anyIx (fun k => !headB k (bt s k)) 3
def idNum (s : ByteArray) : Int := if s.size = 3 then (if idBad s then -1 else idTo s 3) else -1

theorem worth_hi (c : Int) (h0 : 0 ≤ c) (h : c ≤ 255) : -48 ≤ worth c ∧ worth c ≤ 200 := by unfold worth; split <;> omega
theorem idTo_hi (s : ByteArray) : ∀ k, k ≤ 3 → -100000 ≤ idTo s k ∧ idTo s k ≤ 100000 := by
  intro k hk
  have h0 := worth_hi (bt s 0) (bt_lo s 0) (bt_hi s 0)
  have h1 := worth_hi (bt s 1) (bt_lo s 1) (bt_hi s 1)
  have h2 := worth_hi (bt s 2) (bt_lo s 2) (bt_hi s 2)
  obtain rfl | rfl | rfl | rfl : k = 0 ∨ k = 1 ∨ k = 2 ∨ k = 3 := by omega
  all_goals (simp only [idTo]; omega)

set_option maxHeartbeats 400000 in
theorem idNumber_any (s : ByteArray) (w : World) (hs : s.size ≤ maxLen) :
    Calls Try.prog 30 #[.string s] w fun e w' => e = .returned (.int .i64 (idNum s)) ∧ w' = w := by
  unfold maxLen at hs
  by_cases h3 : s.size = 3
  · have h3a : (3 : Nat) ≤ s.size := by omega
    have h3b : s.size ≤ (3 : Nat) := by omega
    have h3n : ((s.size : Int) != 3) = false := by rw [h3]; rfl
    have H3 := hide h3
    clear h3
    go_enter Try.func30, Try.ntmps30
    go_wp2
    go_loop [3, 4] (fun v r => ∃ k : Nat, k ≤ 3 ∧ r = .int .i64 k ∧ v = .int .i64 (idTo s k) ∧ ∀ j, j < k → (!headB j (bt s j)) = false) (fun _ r => 3 - (intOf r).toNat)
    case atStart => exact ⟨0, by omega, rfl, rfl, by intro j hj; omega⟩
    case round =>
      obtain ⟨k, hk, rfl, rfl, hno⟩ := hrel
      have HN := hide hno
      clear hno
      have hbd := idTo_hi s k hk
      obtain ⟨hbd1, hbd2⟩ := hbd
      by_cases hlt : k < 3
      · have h2 : k < s.size := by omega
        have e := bt_of h2
        have hlo := bt_lo s k
        have hhi := bt_hi s k
        have hw := worth_hi (bt s k) hlo hhi
        rw [← e] at hlo hhi
        cases hb : headB k (bt s k) with
        | false =>
          have hv : headB k (s[k].toNat : Int) = false := by rw [e]; exact hb
          have HB := hide hb
          clear e hb hw
          go_wp2_with (go_at_call 58; refine (headAllows_any _ _ _ (by omega) (by omega)).mono ?_; rintro e w' ⟨rfl, rfl⟩)
          go_ret
          exact ⟨ret_int (by rw [idNum, if_pos (unhide H3), idBad, anyIx_is (unhide HN) hlt (by simp [unhide HB])]; rfl), rfl⟩
        | true =>
          have hv : headB k (s[k].toNat : Int) = true := by rw [e]; exact hb
          rw [← e] at hw
          obtain ⟨hw1, hw2⟩ := hw
          have HE := hide e
          have HB := hide hb
          clear e hb
          go_wp2_with (first | (go_at_call 58; refine (headAllows_any _ _ _ (by omega) (by omega)).mono ?_; rintro e w' ⟨rfl, rfl⟩) | (go_at_call 59; refine (digitWorth_any _ _ (by omega) (by omega)).mono ?_; rintro e w' ⟨rfl, rfl⟩))
          go_round
          case rel => exact ⟨k + 1, by omega, by go_num, by rw [unhide HE]; rfl, fun j hj => by
            by_cases e : j = k
            · subst e; simp [unhide HB]
            · exact unhide HN j (by omega)⟩
          case measure => simp [intOf]; omega
      · have hk3 : k = 3 := by omega
        subst hk3
        go_wp2
        go_ret
        exact ⟨ret_int (by rw [idNum, if_pos (unhide H3), idBad, anyIx_none (unhide HN)]; rfl), rfl⟩
  · have h3' : ((s.size : Int) != 3) = true := by rw [bne_iff_ne]; omega
    have HF := hide (show idNum s = -1 by rw [idNum, if_neg h3])
    clear h3
    go_enter Try.func30, Try.ntmps30
    go_wp2
    go_ret
    exact ⟨ret_int (by rw [unhide HF]), rfl⟩

end Go.Proofs.Ytoihlnjcgopdlab

namespace Go.Proofs.Ytoihlnjcgopdlab
open Go.RowKit

theorem gd_left {l m : List Int} {k : Nat} (h : k < l.length) : (l ++ m).getD k 0 = l.getD k 0 := by
  rw [List.getD_eq_getElem?_getD, List.getD_eq_getElem?_getD, List.getElem?_append_left h]
theorem gd_right {l m : List Int} {k : Nat} (h : l.length ≤ k) : (l ++ m).getD k 0 = m.getD (k - l.length) 0 := by
  rw [List.getD_eq_getElem?_getD, List.getD_eq_getElem?_getD, List.getElem?_append_right h]
/-- Bit j of v, from the lowest, as a byte. -/
def dig (v j : Nat) : Int := 48 + ((v / 2 ^ j % 2 : Nat) : Int)
theorem dig_bit (v j : Nat) : dig v j = 48 ∨ dig v j = 49 := by unfold dig; omega
theorem dig_one (v j : Nat) : dig v j = 49 ↔ v / 2 ^ j % 2 = 1 := by unfold dig; omega
/-- The first k of v's n lowest bits, the highest first. -/
def numP (v n k : Nat) : List Int := (List.range k).map fun j => dig v (n - 1 - j)
theorem numP_succ (v n k : Nat) : numP v n (k + 1) = numP v n k ++ [dig v (n - 1 - k)] := by simp [numP, List.range_succ]
theorem numP_len (v n k : Nat) : (numP v n k).length = k := by simp [numP]
theorem numP_get {v n m k : Nat} (h : k < m) : (numP v n m).getD k 0 = dig v (n - 1 - k) := by simp [numP, h]
theorem numP_bits (v n k : Nat) : ∀ c ∈ numP v n k, c = 48 ∨ c = 49 := by
  intro c hc
  simp [numP] at hc
  obtain ⟨j, _, rfl⟩ := hc
  exact dig_bit _ _

/-- The number that n bytes are, the highest first. -/
def valT (f : Nat → Int) : Nat → Nat
  | 0 => 0
  | n + 1 => 2 * valT f n + (if f n = 49 then 1 else 0)
theorem valT_lt (f : Nat → Int) (n : Nat) : valT f n < 2 ^ n := by
  induction n with
  | zero => simp [valT]
  | succ n ih => rw [valT, Nat.pow_succ]; split <;> omega
theorem valT_num {f : Nat → Int} {v n : Nat} (h : ∀ k, k < n → f k = dig v (n - 1 - k)) (hv : v < 2 ^ n) : valT f n = v := by
  have key : ∀ m, m ≤ n → valT f m = v / 2 ^ (n - m) := by
    intro m
    induction m with
    | zero => intro _; rw [valT, Nat.sub_zero, Nat.div_eq_of_lt hv]
    | succ m ih =>
      intro hm
      rw [valT, ih (by omega), h m (by omega)]
      obtain ⟨e, he⟩ : ∃ e, n - (m + 1) = e := ⟨_, rfl⟩
      have h1 : n - 1 - m = e := by omega
      have h2 : n - m = e + 1 := by omega
      rw [h1, he, h2, Nat.pow_succ, ← Nat.div_div_eq_div_mul]
      have := dig_one v e
      generalize v / 2 ^ e = q at *
      by_cases hq : q % 2 = 1
      · rw [if_pos (this.2 hq)]; omega
      · rw [if_neg (fun h => hq (this.1 h))]; omega
  have := key n (Nat.le_refl _)
  simpa using this
theorem valT_ext {f g : Nat → Int} {n : Nat} (h : ∀ k, k < n → f k = g k) : valT f n = valT g n := by
  induction n with
  | zero => rfl
  | succ n ih => rw [valT, valT, ih (fun k hk => h k (by omega)), h n (by omega)]

/-- The sum of P12: a bit more; of n bytes. -/
def sumStep (c : Nat) (b : Int) : Nat := (if decide (b = 49) != decide (32768 ≤ 2 * c) then (2 * c) ^^^ 17817 else 2 * c) % 32768
def sumF (f : Nat → Int) : Nat → Nat
  | 0 => 0
  | n + 1 => sumStep (sumF f n) (f n)
theorem sumStep_lt (c : Nat) (b : Int) : sumStep c b < 32768 := Nat.mod_lt _ (by omega)
theorem sumF_lt (f : Nat → Int) (n : Nat) : sumF f n < 32768 := by
  cases n with
  | zero => simp [sumF]
  | succ n => exact sumStep_lt _ _

def oth (c : Int) : Int := if c = 48 then 49 else 48
/-- How many in a row are the same. -/
def runN (run : Nat) (last c : Int) : Nat := if c = last then run + 1 else 1
/-- The stuffed bits, and the ones without those stuffed. -/
def stuffL : Nat → Int → List Int → List Int
  | _, _, [] => []
  | run, last, c :: t => if runN run last c = 5 then c :: oth c :: stuffL 1 (oth c) t else c :: stuffL (runN run last c) c t
def unstL : Nat → Int → List Int → List Int
  | _, _, [] => []
  | run, last, c :: t => if run = 5 then unstL 1 c t else c :: unstL (runN run last c) c t
def bareL : Nat → Int → List Int → List Int
  | _, _, [] => []
  | run, last, c :: t => if c = 48 ∨ c = 49 then (if run = 5 then bareL 1 c t else c :: bareL (runN run last c) c t) else []
theorem runN_zero (l c : Int) : runN 0 l c = 1 := by simp [runN]
theorem runN_le {run : Nat} {l c : Int} (h : run ≤ 4) : runN run l c ≤ 5 ∧ 1 ≤ runN run l c := by unfold runN; split <;> omega
theorem stuffL_zero (a b : Int) (l : List Int) : stuffL 0 a l = stuffL 0 b l := by
  cases l with
  | nil => rfl
  | cons c t => rw [stuffL, stuffL, runN_zero, runN_zero]
theorem unstL_zero (a b : Int) (l : List Int) : unstL 0 a l = unstL 0 b l := by
  cases l with
  | nil => rfl
  | cons c t => rw [unstL, unstL, runN_zero, runN_zero]
theorem bareL_zero (a b : Int) (l : List Int) : bareL 0 a l = bareL 0 b l := by
  cases l with
  | nil => rfl
  | cons c t => rw [bareL, bareL, runN_zero, runN_zero]
theorem unst_stuff (T : List Int) : ∀ (xs : List Int) (run : Nat) (last : Int), run ≤ 4 → ∃ r l, unstL run last (stuffL run last xs ++ T) = xs ++ unstL r l T := by
  intro xs
  induction xs with
  | nil => intro run last _; exact ⟨run, last, rfl⟩
  | cons c t ih =>
    intro run last hr
    have hn := runN_le (l := last) (c := c) hr
    by_cases h5 : runN run last c = 5
    · obtain ⟨r, l, h⟩ := ih 1 (oth c) (by omega)
      refine ⟨r, l, ?_⟩
      rw [stuffL, if_pos h5, List.cons_append, List.cons_append, unstL, if_neg (by omega), h5, unstL, if_pos rfl, h]; rfl
    · obtain ⟨r, l, h⟩ := ih (runN run last c) c (by omega)
      refine ⟨r, l, ?_⟩
      rw [stuffL, if_neg h5, List.cons_append, unstL, if_neg (by omega), h]; rfl
theorem stuff_bits : ∀ (xs : List Int) (run : Nat) (last : Int), (∀ c ∈ xs, c = 48 ∨ c = 49) → ∀ c ∈ stuffL run last xs, c = 48 ∨ c = 49 := by
  intro xs
  induction xs with
  | nil => intro run last _ c hc; simp [stuffL] at hc
  | cons x t ih =>
    intro run last h c hc
    have hx := h x (by simp)
    have ht : ∀ c ∈ t, c = 48 ∨ c = 49 := fun c hc => h c (by simp [hc])
    rw [stuffL] at hc
    split at hc
    · simp at hc
      rcases hc with rfl | rfl | hc
      · exact hx
      · unfold oth; split <;> simp
      · exact ih _ _ ht c hc
    · simp at hc
      rcases hc with rfl | hc
      · exact hx
      · exact ih _ _ ht c hc
theorem bare_unst : ∀ (l : List Int) (run : Nat) (last : Int), (∀ c ∈ l, c = 48 ∨ c = 49) → bareL run last l = unstL run last l := by
  intro l
  induction l with
  | nil => intro _ _ _; rfl
  | cons c t ih =>
    intro run last h
    have ht : ∀ c ∈ t, c = 48 ∨ c = 49 := fun c hc => h c (by simp [hc])
    rw [bareL, if_pos (h c (by simp)), unstL, ih _ _ ht, ih _ _ ht]
theorem stuff_len : ∀ (xs : List Int) (run : Nat) (last : Int), run ≤ 4 → 4 * (stuffL run last xs).length ≤ 5 * xs.length + run := by
  intro xs
  induction xs with
  | nil => intro run last _; simp [stuffL]
  | cons c t ih =>
    intro run last hr
    by_cases h5 : runN run last c = 5
    · have := ih 1 (oth c) (by omega)
      have hrun : run = 4 := by unfold runN at h5; split at h5 <;> omega
      rw [stuffL, if_pos h5]; simp only [List.length_cons]; omega
    · have hn := runN_le (l := last) (c := c) hr
      have := ih (runN run last c) c (by omega)
      have h1 : runN run last c ≤ run + 1 := by unfold runN; split <;> omega
      rw [stuffL, if_neg h5]; simp only [List.length_cons]; omega
theorem stuff_up : ∀ (xs : List Int) (run : Nat) (last : Int), (stuffL run last xs).length ≤ 2 * xs.length := by
  intro xs
  induction xs with
  | nil => intro run last; simp [stuffL]
  | cons c t ih =>
    intro run last
    rw [stuffL]
    split
    · have := ih 1 (oth c); simp only [List.length_cons]; omega
    · have := ih (runN run last c) c; simp only [List.length_cons]; omega
theorem unst_up : ∀ (xs : List Int) (run : Nat) (last : Int), (unstL run last xs).length ≤ xs.length := by
  intro xs
  induction xs with
  | nil => intro run last; simp [unstL]
  | cons c t ih =>
    intro run last
    rw [unstL]
    split
    · have := ih 1 c; simp only [List.length_cons]; omega
    · have := ih (runN run last c) c; simp only [List.length_cons]; omega
theorem bare_up : ∀ (xs : List Int) (run : Nat) (last : Int), (bareL run last xs).length ≤ xs.length := by
  intro xs
  induction xs with
  | nil => intro run last; simp [bareL]
  | cons c t ih =>
    intro run last
    rw [bareL]
    split
    · split
      · have := ih 1 c; simp only [List.length_cons]; omega
      · have := ih (runN run last c) c; simp only [List.length_cons]; omega
    · simp

/-- The bits of bytes. -/
def payL (p : List Int) : List Int := p.flatMap fun c => numP c.toNat 8 8
theorem payL_len (p : List Int) : (payL p).length = 8 * p.length := by
  induction p with
  | nil => rfl
  | cons c p ih => rw [payL, List.flatMap_cons, List.length_append, numP_len, List.length_cons]; rw [payL] at ih; omega
theorem payL_get (p : List Int) : ∀ (i k : Nat), i < p.length → k < 8 → (payL p).getD (8 * i + k) 0 = dig (p.getD i 0).toNat (8 - 1 - k) := by
  induction p with
  | nil => intro i k h; simp at h
  | cons c p ih =>
    intro i k hi hk
    rw [payL, List.flatMap_cons]
    cases i with
    | zero =>
      rw [gd_left (by rw [numP_len]; omega), Nat.mul_zero, Nat.zero_add, numP_get hk]; rfl
    | succ i =>
      rw [gd_right (by rw [numP_len]; omega), numP_len, show 8 * (i + 1) + k - 8 = 8 * i + k by omega]
      simp at hi
      exact ih i k (by omega) hk
theorem payL_bits (p : List Int) : ∀ c ∈ payL p, c = 48 ∨ c = 49 := by
  intro c hc
  rw [payL, List.mem_flatMap] at hc
  obtain ⟨_, _, h⟩ := hc
  exact numP_bits _ _ _ _ h
theorem payL_push (p : List Int) (c : Int) : payL (p ++ [c]) = payL p ++ numP c.toNat 8 8 := by simp [payL]

/-- The bits ahead of the sum; with it; the frame. -/
def headL (x n : Nat) : List Int := [48] ++ numP x 11 11 ++ [48, 48, 48] ++ numP n 4 4
def plainL (x : Nat) (p : List Int) : List Int := headL x p.length ++ payL p
def sumL (l : List Int) : Nat := sumF (fun k => l.getD k 0) l.length
def wholeL (x : Nat) (p : List Int) : List Int := plainL x p ++ numP (sumL (plainL x p)) 15 15
def endL : List Int := [49, 49, 49, 49, 49, 49, 49, 49, 49, 49]
def frmL (x : Nat) (p : List Int) : List Int := stuffL 0 0 (wholeL x p) ++ endL

theorem headL_len (x n : Nat) : (headL x n).length = 19 := by simp [headL, numP_len]
theorem plainL_len (x : Nat) (p : List Int) : (plainL x p).length = 19 + 8 * p.length := by rw [plainL, List.length_append, headL_len, payL_len]
theorem wholeL_len (x : Nat) (p : List Int) : (wholeL x p).length = 34 + 8 * p.length := by rw [wholeL, List.length_append, plainL_len, numP_len]; omega
theorem headL_bits (x n : Nat) : ∀ c ∈ headL x n, c = 48 ∨ c = 49 := by
  intro c hc
  simp only [headL, List.mem_append] at hc
  rcases hc with ((hc | hc) | hc) | hc
  · simp at hc; exact .inl hc
  · exact numP_bits _ _ _ _ hc
  · simp at hc; exact .inl hc
  · exact numP_bits _ _ _ _ hc
theorem plainL_bits (x : Nat) (p : List Int) : ∀ c ∈ plainL x p, c = 48 ∨ c = 49 := by
  intro c hc
  rw [plainL, List.mem_append] at hc
  rcases hc with hc | hc
  · exact headL_bits _ _ _ hc
  · exact payL_bits _ _ hc
theorem wholeL_bits (x : Nat) (p : List Int) : ∀ c ∈ wholeL x p, c = 48 ∨ c = 49 := by
  intro c hc
  rw [wholeL, List.mem_append] at hc
  rcases hc with hc | hc
  · exact plainL_bits _ _ _ hc
  · exact numP_bits _ _ _ _ hc
theorem frmL_bits (x : Nat) (p : List Int) : ∀ c ∈ frmL x p, c = 48 ∨ c = 49 := by
  intro c hc
  rw [frmL, List.mem_append] at hc
  rcases hc with hc | hc
  · exact stuff_bits _ _ _ (wholeL_bits x p) c hc
  · simp [endL] at hc; exact .inr hc
theorem frmL_len {x : Nat} {p : List Int} (h : p.length ≤ 8) : (frmL x p).length ≤ 160 ∧ 10 ≤ (frmL x p).length := by
  have := stuff_len (wholeL x p) 0 0 (by omega)
  rw [wholeL_len] at this
  rw [frmL, List.length_append]
  simp only [endL, List.length_cons, List.length_nil]
  omega

theorem headL_x {x n k : Nat} (h : k < 11) : (headL x n).getD (1 + k) 0 = dig x (11 - 1 - k) := by
  rw [headL, List.append_assoc, List.append_assoc, gd_right (by simp), gd_left (by rw [numP_len]; simp; omega)]
  have e : 1 + k - [(48 : Int)].length = k := by simp
  rw [e, numP_get h]
theorem headL_n {x n k : Nat} (h : k < 4) : (headL x n).getD (15 + k) 0 = dig n (4 - 1 - k) := by
  have e : ([(48 : Int)] ++ numP x 11 11 ++ [48, 48, 48]).length = 15 := by simp [numP_len]
  rw [headL, gd_right (by omega), e, Nat.add_sub_cancel_left, numP_get h]

/-- What the bits of a frame say. -/
def xOf (B : List Int) : Nat := valT (fun k => B.getD (1 + k) 0) 11
def nOf (B : List Int) : Nat := valT (fun k => B.getD (15 + k) 0) 4
def pOf (B : List Int) (n : Nat) : List Int := (List.range n).map fun i => (valT (fun k => B.getD (19 + 8 * i + k) 0) 8 : Int)
theorem xOf_lt (B : List Int) : xOf B < 2048 := valT_lt _ 11
theorem nOf_lt (B : List Int) : nOf B < 16 := valT_lt _ 4
theorem pOf_len (B : List Int) (n : Nat) : (pOf B n).length = n := by simp [pOf]
theorem pOf_succ (B : List Int) (n : Nat) : pOf B (n + 1) = pOf B n ++ [(valT (fun k => B.getD (19 + 8 * n + k) 0) 8 : Int)] := by simp [pOf, List.range_succ]
def Byts (p : List Int) : Prop := ∀ c ∈ p, 0 ≤ c ∧ c ≤ 255
theorem pOf_byts (B : List Int) (n : Nat) : Byts (pOf B n) := by
  intro c hc
  rw [pOf, List.mem_map] at hc
  obtain ⟨i, _, rfl⟩ := hc
  have := valT_lt (fun k => B.getD (19 + 8 * i + k) 0) 8
  omega
theorem whole_at {x : Nat} {p T : List Int} {k : Nat} (h : k < 19) : (wholeL x p ++ T).getD k 0 = (headL x p.length).getD k 0 := by
  rw [gd_left (by rw [wholeL_len]; omega), wholeL, gd_left (by rw [plainL_len]; omega), plainL, gd_left (by rw [headL_len]; omega)]
theorem xOf_whole {x : Nat} {p T : List Int} (hx : x < 2048) : xOf (wholeL x p ++ T) = x := by
  refine valT_num (fun k hk => ?_) hx
  rw [whole_at (by omega), headL_x hk]
theorem nOf_whole {x : Nat} {p T : List Int} (hp : p.length ≤ 8) : nOf (wholeL x p ++ T) = p.length := by
  refine valT_num (fun k hk => ?_) (show p.length < 16 by omega)
  rw [whole_at (by omega), headL_n hk]
theorem pOf_whole {x : Nat} {p T : List Int} (hb : Byts p) : pOf (wholeL x p ++ T) p.length = p := by
  apply List.ext_getElem
  · rw [pOf_len]
  · intro i h1 h2
    simp only [pOf, List.getElem_map, List.getElem_range]
    have hbi := hb p[i] (List.getElem_mem h2)
    rw [valT_num (v := p[i].toNat) (fun k hk => ?_) (show p[i].toNat < 256 by omega)]
    · omega
    · rw [gd_left (by rw [wholeL_len]; omega), wholeL, gd_left (by rw [plainL_len]; omega), plainL, gd_right (by rw [headL_len]; omega), headL_len]
      rw [show 19 + 8 * i + k - 19 = 8 * i + k by omega, payL_get p i k h2 hk]
      simp [h2]

/-- P13 as a pure function of the text's bytes. -/
def dfL (l : List Int) : Option (Nat × List Int) :=
  if nOf (bareL 0 0 l) ≤ 8 ∧ frmL (xOf (bareL 0 0 l)) (pOf (bareL 0 0 l) (nOf (bareL 0 0 l))) = l then some (xOf (bareL 0 0 l), pOf (bareL 0 0 l) (nOf (bareL 0 0 l))) else none
theorem dfL_some {l : List Int} {x : Nat} {p : List Int} (h : dfL l = some (x, p)) : x < 2048 ∧ p.length ≤ 8 ∧ Byts p ∧ frmL x p = l := by
  rw [dfL] at h
  split at h
  · rename_i hc
    simp only [Option.some.injEq, Prod.mk.injEq] at h
    obtain ⟨rfl, rfl⟩ := h
    exact ⟨xOf_lt _, by rw [pOf_len]; exact hc.1, pOf_byts _ _, hc.2⟩
  · cases h
theorem dfL_frm {x : Nat} {p : List Int} (hx : x < 2048) (hp : p.length ≤ 8) (hb : Byts p) : dfL (frmL x p) = some (x, p) := by
  obtain ⟨r, l, h⟩ := unst_stuff endL (wholeL x p) 0 0 (by omega)
  have e : bareL 0 0 (frmL x p) = wholeL x p ++ unstL r l endL := by rw [bare_unst _ _ _ (frmL_bits x p), frmL, h]
  rw [dfL, e, nOf_whole hp, xOf_whole hx, pOf_whole hb, if_pos ⟨hp, rfl⟩]

/-- The program's way: the bits ahead of the end. -/
def cutL (l : List Int) : List Int := unstL 0 0 (l.take (l.length - 10))
theorem cut_frm (x : Nat) (p : List Int) : cutL (frmL x p) = wholeL x p := by
  obtain ⟨r, l, h⟩ := unst_stuff [] (wholeL x p) 0 0 (by omega)
  rw [List.append_nil] at h
  have e : (frmL x p).take ((frmL x p).length - 10) = stuffL 0 0 (wholeL x p) := by
    rw [frmL, List.length_append, show endL.length = 10 from rfl, Nat.add_sub_cancel, List.take_left']
    rfl
  rw [cutL, e, h]; simp [unstL]
def partsOk (l : List Int) : Prop := 10 ≤ l.length ∧ 19 ≤ (cutL l).length ∧ nOf (cutL l) ≤ 8 ∧ (cutL l).length = 34 + 8 * nOf (cutL l)
theorem df_parts {l : List Int} (h : partsOk l) (e : frmL (xOf (cutL l)) (pOf (cutL l) (nOf (cutL l))) = l) : dfL l = some (xOf (cutL l), pOf (cutL l) (nOf (cutL l))) := by
  have := dfL_frm (x := xOf (cutL l)) (p := pOf (cutL l) (nOf (cutL l))) (xOf_lt _) (by rw [pOf_len]; exact h.2.2.1) (pOf_byts _ _)
  rw [e] at this; exact this
theorem df_none {l : List Int} (h : ¬ (partsOk l ∧ frmL (xOf (cutL l)) (pOf (cutL l) (nOf (cutL l))) = l)) : dfL l = none := by
  cases hd : dfL l with
  | none => rfl
  | some xp =>
    obtain ⟨x, p⟩ := xp
    obtain ⟨hx, hp, hb, he⟩ := dfL_some hd
    refine absurd ?_ h
    have hc : cutL l = wholeL x p := by rw [← he, cut_frm]
    have h1 : nOf (cutL l) = p.length := by rw [hc]; have := nOf_whole (x := x) (T := []) hp; rwa [List.append_nil] at this
    have h2 : xOf (cutL l) = x := by rw [hc]; have := xOf_whole (p := p) (T := []) hx; rwa [List.append_nil] at this
    have h3 : pOf (cutL l) p.length = p := by rw [hc]; have := pOf_whole (x := x) (T := []) hb; rwa [List.append_nil] at this
    refine ⟨⟨?_, ?_, ?_, ?_⟩, ?_⟩
    · rw [← he]; exact (frmL_len hp).2
    · rw [hc, wholeL_len]; omega
    · omega
    · rw [h1, hc, wholeL_len]
    · rw [h1, h2, h3, he]

end Go.Proofs.Ytoihlnjcgopdlab

namespace Go.Proofs.Ytoihlnjcgopdlab
open Go.RowKit

theorem at_list {l : List Oper} {i : Nat} {o : Oper} (h : l[i]? = some o) : l.toArray[i]? = some o := by simpa using h

theorem bt_extract (s : ByteArray) (i n k : Nat) (hk : k < n) (h : i + n ≤ s.size) : bt (s.extract i (i + n)) k = bt s (i + k) := by
  have h1 : k < (s.extract i (i + n)).size := by rw [ByteArray.size_extract]; omega
  have h2 : i + k < s.size := by omega
  rw [bt, dif_pos h1, bt, dif_pos h2]
  have : (s.extract i (i + n))[k] = s[i + k] := by
    simp [ByteArray.getElem_extract]
  rw [this]

/-- What a signal's nine bytes at i say. -/
def mkSig (s : ByteArray) (i : Nat) : Sg := ⟨i + 1, bt s (i + 1), 10 * worth (bt s (i + 2)) + worth (bt s (i + 3)), 10 * worth (bt s (i + 4)) + worth (bt s (i + 5)), bt s (i + 6), bt s (i + 7), bt s (i + 8)⟩

theorem digitWorth_u (c : UInt8) (w : World) :
    Calls Try.prog 59 #[.int .u8 (c.toNat : Int)] w fun e w' => e = .returned (.int .i64 (worth c.toNat)) ∧ w' = w :=
  digitWorth_any _ _ (by omega) (by have := c.toNat_lt; omega)

theorem worth_u (c : UInt8) : -48 ≤ worth (c.toNat : Int) ∧ worth (c.toNat : Int) ≤ 200 := worth_hi _ (by omega) (by have := c.toNat_lt; omega)

set_option maxHeartbeats 1000000 in
theorem readSignal_any (t : ByteArray) (w : World) (h9 : t.size = 9) :
    Calls Try.prog 105 #[.string t] w fun e w' =>
      e = .returned (.agg #[.int .i64 0, .int .u8 (bt t 1), .int .i64 (10 * worth (bt t 2) + worth (bt t 3)), .int .i64 (10 * worth (bt t 4) + worth (bt t 5)), .int .u8 (bt t 6), .int .u8 (bt t 7), .int .u8 (bt t 8)]) ∧ Below w.heap.size w w' := by
  have hn : ((t.size : Int) != 9) = false := by rw [h9]; rfl
  have i1 : (1 : Int) < (t.size : Int) := by omega
  have i2 : (2 : Int) < (t.size : Int) := by omega
  have i3 : (3 : Int) < (t.size : Int) := by omega
  have i4 : (4 : Int) < (t.size : Int) := by omega
  have i5 : (5 : Int) < (t.size : Int) := by omega
  have i6 : (6 : Int) < (t.size : Int) := by omega
  have i7 : (7 : Int) < (t.size : Int) := by omega
  have i8 : (8 : Int) < (t.size : Int) := by omega
  have H9 := hide h9
  clear h9
  have q1 : 1 < t.size := by omega
  have q2 : 2 < t.size := by omega
  have q3 : 3 < t.size := by omega
  have q4 : 4 < t.size := by omega
  have q5 : 5 < t.size := by omega
  have q6 : 6 < t.size := by omega
  have q7 : 7 < t.size := by omega
  have q8 : 8 < t.size := by omega
  have w2 := worth_u t[2]
  have w3 := worth_u t[3]
  have w4 := worth_u t[4]
  have w5 := worth_u t[5]
  obtain ⟨w2a, w2b⟩ := w2
  obtain ⟨w3a, w3b⟩ := w3
  obtain ⟨w4a, w4b⟩ := w4
  obtain ⟨w5a, w5b⟩ := w5
  have m2 : IntKind.i64.wrap ((10 : Int) * worth (t[2].toNat : Int)) = (10 : Int) * worth (t[2].toNat : Int) := by rw [IntKind.wrap_i64]; omega
  have m4 : IntKind.i64.wrap ((10 : Int) * worth (t[4].toNat : Int)) = (10 : Int) * worth (t[4].toNat : Int) := by rw [IntKind.wrap_i64]; omega
  have m3 : IntKind.i64.wrap ((10 : Int) * worth (t[2].toNat : Int) + worth (t[3].toNat : Int)) = (10 : Int) * worth (t[2].toNat : Int) + worth (t[3].toNat : Int) := by rw [IntKind.wrap_i64]; omega
  have m5 : IntKind.i64.wrap ((10 : Int) * worth (t[4].toNat : Int) + worth (t[5].toNat : Int)) = (10 : Int) * worth (t[4].toNat : Int) + worth (t[5].toNat : Int) := by rw [IntKind.wrap_i64]; omega
  clear w2a w2b w3a w3b w4a w4b w5a w5b
  go_enter Try.func105, Try.ntmps105
  go_wp2
  refine wp_region_noPanic ?_
  refine wp_region_held_drew (S := fun _ => True) (by kernel_rfl) trivial (fun hHeld => ?_)
  refine wpAnyH_take (i := 0) (v := ?_) (at_list rfl) (by kernel_rfl) (by kernel_rfl) (by kernel_rfl) (fun _ _ _ h => h) (Or.inl ⟨by rfl, ?_⟩) (by assumption) ?_
  rotate_left
  · intro w hSw; (try dsimp only at hSw); first | (go_simp; done) | (go_simp; with_reducible rfl)
  try simp only [Act.put]
  try simp only [List.setIfInBounds_toArray]
  try simp only [List.set_cons_succ]
  try simp only [List.set_cons_zero]
  refine wpAnyH_take (i := 2) (v := ?_) (at_list rfl) (by kernel_rfl) (by kernel_rfl) (by kernel_rfl) (fun _ _ _ h => h) (Or.inl ⟨by rfl, ?_⟩) (by assumption) ?_
  rotate_left
  · intro w hSw; (try dsimp only at hSw); first | (go_simp; done) | (go_simp; with_reducible rfl)
  try simp only [Act.put]
  try simp only [List.setIfInBounds_toArray]
  try simp only [List.set_cons_succ]
  try simp only [List.set_cons_zero]
  refine wpAnyH_take (i := 6) (v := ?_) (at_list rfl) (by kernel_rfl) (by kernel_rfl) (by kernel_rfl) (fun _ _ _ h => h) (Or.inl ⟨by rfl, ?_⟩) (by assumption) ?_
  rotate_left
  · intro w hSw; (try dsimp only at hSw); first | (go_simp; done) | (go_simp; with_reducible rfl)
  try simp only [Act.put]
  try simp only [List.setIfInBounds_toArray]
  try simp only [List.set_cons_succ]
  try simp only [List.set_cons_zero]
  refine wpAnyH_take (i := 10) (v := ?_) (at_list rfl) (by kernel_rfl) (by kernel_rfl) (by kernel_rfl) (fun _ _ _ h => h) (Or.inl ⟨by rfl, ?_⟩) (by assumption) ?_
  rotate_left
  · intro w hSw; (try dsimp only at hSw); first | (go_simp; done) | (go_simp; with_reducible rfl)
  try simp only [Act.put]
  try simp only [List.setIfInBounds_toArray]
  try simp only [List.set_cons_succ]
  try simp only [List.set_cons_zero]
  refine wpAnyH_take (i := 14) (v := ?_) (at_list rfl) (by kernel_rfl) (by kernel_rfl) (by kernel_rfl) (fun _ _ _ h => h) (Or.inl ⟨by rfl, ?_⟩) (by assumption) ?_
  rotate_left
  · intro w hSw; (try dsimp only at hSw); first | (go_simp; done) | (go_simp; with_reducible rfl)
  try simp only [Act.put]
  try simp only [List.setIfInBounds_toArray]
  try simp only [List.set_cons_succ]
  try simp only [List.set_cons_zero]
  refine wpAnyH_take (i := 18) (v := ?_) (at_list rfl) (by kernel_rfl) (by kernel_rfl) (by kernel_rfl) (fun _ _ _ h => h) (Or.inl ⟨by rfl, ?_⟩) (by assumption) ?_
  rotate_left
  · intro w hSw; (try dsimp only at hSw); first | (go_simp; done) | (go_simp; with_reducible rfl)
  try simp only [Act.put]
  try simp only [List.setIfInBounds_toArray]
  try simp only [List.set_cons_succ]
  try simp only [List.set_cons_zero]
  refine wpAnyH_take (i := 20) (v := ?_) (at_list rfl) (by kernel_rfl) (by kernel_rfl) (by kernel_rfl) (fun _ _ _ h => h) (Or.inl ⟨by rfl, ?_⟩) (by assumption) ?_
  rotate_left
  · intro w hSw; (try dsimp only at hSw); first | (go_simp; done) | (go_simp; with_reducible rfl)
  try simp only [Act.put]
  try simp only [List.setIfInBounds_toArray]
  try simp only [List.set_cons_succ]
  try simp only [List.set_cons_zero]
  refine wpAnyH_take (i := 22) (v := ?_) (at_list rfl) (by kernel_rfl) (by kernel_rfl) (by kernel_rfl) (fun _ _ _ h => h) (Or.inl ⟨by rfl, ?_⟩) (by assumption) ?_
  rotate_left
  · intro w hSw; (try dsimp only at hSw); first | (go_simp; done) | (go_simp; with_reducible rfl)
  try simp only [Act.put]
  try simp only [List.setIfInBounds_toArray]
  try simp only [List.set_cons_succ]
  try simp only [List.set_cons_zero]
  refine wpAnyH_take (i := 1) (v := ?_) (at_list rfl) (by kernel_rfl) (by kernel_rfl) (by kernel_rfl) (fun _ _ _ h => h) (Or.inl ⟨by rfl, ?_⟩) (by assumption) ?_
  rotate_left
  · intro w hSw; (try dsimp only at hSw); first | (go_simp; done) | (go_simp; with_reducible rfl)
  try simp only [Act.put]
  try simp only [List.setIfInBounds_toArray]
  try simp only [List.set_cons_succ]
  try simp only [List.set_cons_zero]
  refine wpAnyH_take (i := 3) (v := ?_) (at_list rfl) (by kernel_rfl) (by kernel_rfl) (by kernel_rfl) (fun _ _ _ h => h) (Or.inl ⟨by rfl, ?_⟩) (by assumption) ?_
  rotate_left
  · intro w hSw; (try dsimp only at hSw); first | (go_simp; done) | (go_simp; with_reducible rfl)
  try simp only [Act.put]
  try simp only [List.setIfInBounds_toArray]
  try simp only [List.set_cons_succ]
  try simp only [List.set_cons_zero]
  refine wpAnyH_take (i := 7) (v := ?_) (at_list rfl) (by kernel_rfl) (by kernel_rfl) (by kernel_rfl) (fun _ _ _ h => h) (Or.inl ⟨by rfl, ?_⟩) (by assumption) ?_
  rotate_left
  · intro w hSw; (try dsimp only at hSw); first | (go_simp; done) | (go_simp; with_reducible rfl)
  try simp only [Act.put]
  try simp only [List.setIfInBounds_toArray]
  try simp only [List.set_cons_succ]
  try simp only [List.set_cons_zero]
  refine wpAnyH_take (i := 11) (v := ?_) (at_list rfl) (by kernel_rfl) (by kernel_rfl) (by kernel_rfl) (fun _ _ _ h => h) (Or.inl ⟨by rfl, ?_⟩) (by assumption) ?_
  rotate_left
  · intro w hSw; (try dsimp only at hSw); first | (go_simp; done) | (go_simp; with_reducible rfl)
  try simp only [Act.put]
  try simp only [List.setIfInBounds_toArray]
  try simp only [List.set_cons_succ]
  try simp only [List.set_cons_zero]
  refine wpAnyH_take (i := 15) (v := ?_) (at_list rfl) (by kernel_rfl) (by kernel_rfl) (by kernel_rfl) (fun _ _ _ h => h) (Or.inl ⟨by rfl, ?_⟩) (by assumption) ?_
  rotate_left
  · intro w hSw; (try dsimp only at hSw); first | (go_simp; done) | (go_simp; with_reducible rfl)
  try simp only [Act.put]
  try simp only [List.setIfInBounds_toArray]
  try simp only [List.set_cons_succ]
  try simp only [List.set_cons_zero]
  refine wpAnyH_take (i := 19) (v := ?_) (at_list rfl) (by kernel_rfl) (by kernel_rfl) (by kernel_rfl) (fun _ _ _ h => h) (Or.inl ⟨by rfl, ?_⟩) (by assumption) ?_
  rotate_left
  · intro w hSw; (try dsimp only at hSw); first | (go_simp; done) | (go_simp; with_reducible rfl)
  try simp only [Act.put]
  try simp only [List.setIfInBounds_toArray]
  try simp only [List.set_cons_succ]
  try simp only [List.set_cons_zero]
  refine wpAnyH_take (i := 21) (v := ?_) (at_list rfl) (by kernel_rfl) (by kernel_rfl) (by kernel_rfl) (fun _ _ _ h => h) (Or.inl ⟨by rfl, ?_⟩) (by assumption) ?_
  rotate_left
  · intro w hSw; (try dsimp only at hSw); first | (go_simp; done) | (go_simp; with_reducible rfl)
  try simp only [Act.put]
  try simp only [List.setIfInBounds_toArray]
  try simp only [List.set_cons_succ]
  try simp only [List.set_cons_zero]
  refine wpAnyH_take (i := 23) (v := ?_) (at_list rfl) (by kernel_rfl) (by kernel_rfl) (by kernel_rfl) (fun _ _ _ h => h) (Or.inl ⟨by rfl, ?_⟩) (by assumption) ?_
  rotate_left
  · intro w hSw; (try dsimp only at hSw); first | (go_simp; done) | (go_simp; with_reducible rfl)
  try simp only [Act.put]
  try simp only [List.setIfInBounds_toArray]
  try simp only [List.set_cons_succ]
  try simp only [List.set_cons_zero]
  refine wpAnyH_ready (rs := [4]) (by kernel_rfl) (by simp) ?_
  refine AllReadyH.cons (at_list rfl) (fun K hK => ?_) AllReadyH.nil
  go_simp
  refine (digitWorth_u _ _).mono ?_; rintro e w' ⟨rfl, rfl⟩; dsimp only
  refine hK.out _ _ (trivial) (fun hHeld => ?_)
  clear hK K
  try simp only [Act.put]
  try simp only [List.setIfInBounds_toArray]
  try simp only [List.set_cons_succ]
  try simp only [List.set_cons_zero]
  refine wpAnyH_take (i := 5) (v := ?_) (at_list rfl) (by kernel_rfl) (by kernel_rfl) (by kernel_rfl) (fun _ _ _ h => h) (Or.inl ⟨by rfl, ?_⟩) (by assumption) ?_
  rotate_left
  · intro w hSw; (try dsimp only at hSw); first | (go_simp; done) | (go_simp; with_reducible rfl)
  try simp only [Act.put]
  try simp only [List.setIfInBounds_toArray]
  try simp only [List.set_cons_succ]
  try simp only [List.set_cons_zero]
  refine wpAnyH_ready (rs := [8]) (by kernel_rfl) (by simp) ?_
  refine AllReadyH.cons (at_list rfl) (fun K hK => ?_) AllReadyH.nil
  go_simp
  refine (digitWorth_u _ _).mono ?_; rintro e w' ⟨rfl, rfl⟩; dsimp only
  refine hK.out _ _ (trivial) (fun hHeld => ?_)
  clear hK K
  try simp only [Act.put]
  try simp only [List.setIfInBounds_toArray]
  try simp only [List.set_cons_succ]
  try simp only [List.set_cons_zero]
  refine wpAnyH_take (i := 9) (v := ?_) (at_list rfl) (by kernel_rfl) (by kernel_rfl) (by kernel_rfl) (fun _ _ _ h => h) (Or.inl ⟨by rfl, ?_⟩) (by assumption) ?_
  rotate_left
  · intro w hSw; (try dsimp only at hSw); first | (go_simp; done) | (go_simp; with_reducible rfl)
  try simp only [Act.put]
  try simp only [List.setIfInBounds_toArray]
  try simp only [List.set_cons_succ]
  try simp only [List.set_cons_zero]
  refine wpAnyH_ready (rs := [12]) (by kernel_rfl) (by simp) ?_
  refine AllReadyH.cons (at_list rfl) (fun K hK => ?_) AllReadyH.nil
  go_simp
  refine (digitWorth_u _ _).mono ?_; rintro e w' ⟨rfl, rfl⟩; dsimp only
  refine hK.out _ _ (trivial) (fun hHeld => ?_)
  clear hK K
  try simp only [Act.put]
  try simp only [List.setIfInBounds_toArray]
  try simp only [List.set_cons_succ]
  try simp only [List.set_cons_zero]
  refine wpAnyH_take (i := 13) (v := ?_) (at_list rfl) (by kernel_rfl) (by kernel_rfl) (by kernel_rfl) (fun _ _ _ h => h) (Or.inl ⟨by rfl, ?_⟩) (by assumption) ?_
  rotate_left
  · intro w hSw; (try dsimp only at hSw); first | (go_simp; done) | (go_simp; with_reducible rfl)
  try simp only [Act.put]
  try simp only [List.setIfInBounds_toArray]
  try simp only [List.set_cons_succ]
  try simp only [List.set_cons_zero]
  refine wpAnyH_ready (rs := [16]) (by kernel_rfl) (by simp) ?_
  refine AllReadyH.cons (at_list rfl) (fun K hK => ?_) AllReadyH.nil
  go_simp
  refine (digitWorth_u _ _).mono ?_; rintro e w' ⟨rfl, rfl⟩; dsimp only
  refine hK.out _ _ (trivial) (fun hHeld => ?_)
  clear hK K
  try simp only [Act.put]
  try simp only [List.setIfInBounds_toArray]
  try simp only [List.set_cons_succ]
  try simp only [List.set_cons_zero]
  refine wpAnyH_take (i := 17) (v := ?_) (at_list rfl) (by kernel_rfl) (by kernel_rfl) (by kernel_rfl) (fun _ _ _ h => h) (Or.inl ⟨by rfl, ?_⟩) (by assumption) ?_
  rotate_left
  · intro w hSw; (try dsimp only at hSw); first | (go_simp; done) | (go_simp; with_reducible rfl)
  try simp only [Act.put]
  try simp only [List.setIfInBounds_toArray]
  try simp only [List.set_cons_succ]
  try simp only [List.set_cons_zero]
  refine wpAnyH_take (i := 24) (v := ?_) (at_list rfl) (by kernel_rfl) (by kernel_rfl) (by kernel_rfl) (fun _ _ _ h => h) (Or.inl ⟨by rfl, ?_⟩) (by assumption) ?_
  rotate_left
  · intro w hSw; (try dsimp only at hSw); first | (go_simp; done) | (go_simp; with_reducible rfl)
  try simp only [Act.put]
  try simp only [List.setIfInBounds_toArray]
  try simp only [List.set_cons_succ]
  try simp only [List.set_cons_zero]
  refine wpAnyH_ready (rs := [25]) (by kernel_rfl) (by simp) ?_
  refine AllReadyH.cons (at_list rfl) (fun K hK => ?_) AllReadyH.nil
  go_simp
  refine hK.out _ _ (trivial) (fun hHeld => ?_)
  clear hK K
  try simp only [Act.put]
  try simp only [List.setIfInBounds_toArray]
  try simp only [List.set_cons_succ]
  try simp only [List.set_cons_zero]
  refine wpAnyH_done (by kernel_rfl) ?_ _
  refine NoPanic.normal ?_
  go_wp2
  rw [← bt_of (show 1 < t.size by omega), ← bt_of (show 2 < t.size by omega), ← bt_of (show 3 < t.size by omega), ← bt_of (show 4 < t.size by omega), ← bt_of (show 5 < t.size by omega), ← bt_of (show 6 < t.size by omega), ← bt_of (show 7 < t.size by omega), ← bt_of (show 8 < t.size by omega)]
  exact bodyPost_ret (v := .agg #[.int .i64 0, .int .u8 t[1].toNat, .int .i64 (10 * worth t[2].toNat + worth t[3].toNat), .int .i64 (10 * worth t[4].toNat + worth t[5].toNat), .int .u8 t[6].toNat, .int .u8 t[7].toNat, .int .u8 t[8].toNat]) (by simp [results, Try.results105, go_sem]) rfl ⟨rfl, ((Below.refl _ _).alloc (Nat.le_refl _) _).drew⟩

end Go.Proofs.Ytoihlnjcgopdlab

namespace Go.Proofs.Ytoihlnjcgopdlab
open Go.RowKit

theorem nSig_ok {s : ByteArray} {i : Nat} (h : ∀ j, j < 9 → sigOk s i j = true) : ∀ j, j < 9 → i + j < s.size ∧ sigB j (befB s i j) (bt s (i + j)) = true := by
  intro j hj
  have := h j hj
  simpa [sigOk] using this

theorem ret_val {a b : Value} (h : a = b) : Ending.returned a = .returned b := by rw [h]
def rZeroSig : Value := .agg #[.int .u8 0, .int .i64 0, .int .i64 0, .bool false, .bool false, .int .u8 0, .int .i64 0]
def rSigOut (s : ByteArray) (i : Nat) : Value :=
  if nSig s i < 9 then .tuple #[rZeroSig, .int .i64 (i + nSig s i : Nat), .bool false]
  else .tuple #[.agg #[.int .u8 (mkSig s i).nm, .int .i64 (mkSig s i).st, .int .i64 (mkSig s i).ln, .bool (decide ((mkSig s i).od = 62)), .bool (decide ((mkSig s i).kd = 115)), .int .u8 (mkSig s i).rl, .int .i64 (mkSig s i).pl], .int .i64 (i + 9 : Nat), .bool true]
theorem rSigOut_bad {s : ByteArray} {i k : Nat} (hN : nSig s i = k) (hk : k < 9) : Value.tuple #[.agg #[.int .u8 0, .int .i64 0, .int .i64 0, .bool false, .bool false, .int .u8 0, .int .i64 0], .int .i64 (i + k), .bool false] = rSigOut s i := by
  rw [rSigOut, hN, if_pos hk]; simp [rZeroSig]

theorem beq_dec (a b : Int) : (a == b) = decide (a = b) := by
  rw [Bool.eq_iff_iff]; simp
theorem rSigOut_good {s : ByteArray} {i : Nat} (hN : nSig s i = 9) (p1 : i + 1 < s.size) (p2 : i + 2 < s.size) (p3 : i + 3 < s.size) (p4 : i + 4 < s.size) (p5 : i + 5 < s.size) (p6 : i + 6 < s.size) (p7 : i + 7 < s.size) (p8 : i + 8 < s.size) :
    Value.tuple #[.agg #[.int .u8 s[i + 1].toNat, .int .i64 (10 * worth s[i + 2].toNat + worth s[i + 3].toNat), .int .i64 (10 * worth s[i + 4].toNat + worth s[i + 5].toNat), .bool ((s[i + 6].toNat : Int) == 62), .bool ((s[i + 7].toNat : Int) == 115), .int .u8 s[i + 8].toNat, .int .i64 (i + 1)], .int .i64 (i + 9), .bool true] = rSigOut s i := by
  rw [rSigOut, hN, if_neg (by omega), mkSig, bt_of p1, bt_of p2, bt_of p3, bt_of p4, bt_of p5, bt_of p6, bt_of p7, bt_of p8, beq_dec, beq_dec]
  simp

set_option maxRecDepth 100000 in
set_option maxHeartbeats 2000000 in
theorem rSignal_any (s : ByteArray) (i : Nat) (w : World) (hs : s.size ≤ 140737488351232) (hi : i ≤ 140737488352232) :
    Calls Try.prog 94 #[.string s, .int .i64 i] w fun e w' =>
      e = .returned (rSigOut s i) ∧ Below w.heap.size w w' := by
  go_enter Try.func94, Try.ntmps94
  go_wp2
  go_loop [7, 8, 9] (fun b r _ => ∃ k : Nat, k ≤ 9 ∧ r = .int .i64 k ∧ b = .int .u8 (befB s i k) ∧ ∀ j, j < k → (!sigOk s i j) = false) (fun _ r _ => 9 - (intOf r).toNat)
  case atStart => exact ⟨0, by omega, rfl, rfl, by intro j hj; omega⟩
  case round =>
    obtain ⟨k, hk, rfl, rfl, hno⟩ := hrel
    have HN := hide hno
    clear hno
    by_cases hlt : k < 9
    · by_cases h2 : i + k < s.size
      · have e := bt_of h2
        cases hb : sigB k (befB s i k) (bt s (i + k)) with
        | false =>
          have hv : sigB k (befB s i k) (s[i + k].toNat : Int) = false := by rw [e]; exact hb
          have HK := hide (show (!sigOk s i k) = true by simp [sigOk, hb])
          clear e hb
          go_wp2_with (go_at_call 100; refine (rSigned_any _ _ _ _ (by omega) (by omega)).mono ?_; rintro e w' ⟨rfl, rfl⟩)
          have hN : nSig s i = k := firstIx_is (unhide HN) hlt (unhide HK)
          exact bodyPost_ret (v := .tuple #[.agg #[.int .u8 0, .int .i64 0, .int .i64 0, .bool false, .bool false, .int .u8 0, .int .i64 0], .int .i64 (i + k), .bool false]) (by simp [results, Try.results94, go_sem]) rfl ⟨ret_val (rSigOut_bad hN hlt), (Below.refl _ _).alloc (Nat.le_refl _) _⟩
        | true =>
          have hv : sigB k (befB s i k) (s[i + k].toNat : Int) = true := by rw [e]; exact hb
          have HK := hide (show (!sigOk s i k) = false by simp [sigOk, hb, h2])
          have HB := hide (show (s[i + k].toNat : Int) = befB s i (k + 1) by rw [e, befB, if_neg (by omega)]; rfl)
          clear e hb
          go_wp2_with (go_at_call 100; refine (rSigned_any _ _ _ _ (by omega) (by omega)).mono ?_; rintro e w' ⟨rfl, rfl⟩)
          go_round
          case rel => exact ⟨k + 1, by omega, by go_num, by rw [← unhide HB], fun j hj => by
            by_cases e : j = k
            · subst e; exact unhide HK
            · exact unhide HN j (by omega)⟩
          case measure => simp [intOf]; omega
      · have HK := hide (show (!sigOk s i k) = true by simp [sigOk, h2])
        go_wp2
        have hN : nSig s i = k := firstIx_is (unhide HN) hlt (unhide HK)
        exact bodyPost_ret (v := .tuple #[.agg #[.int .u8 0, .int .i64 0, .int .i64 0, .bool false, .bool false, .int .u8 0, .int .i64 0], .int .i64 (i + k), .bool false]) (by simp [results, Try.results94, go_sem]) rfl ⟨ret_val (rSigOut_bad hN hlt), (Below.refl _ _).alloc (Nat.le_refl _) _⟩
    · have hk9 : k = 9 := by omega
      subst hk9
      have hN : nSig s i = 9 := firstIx_none (unhide HN)
      have hall := nSig_ok (s := s) (i := i) (fun j hj => by simpa using unhide HN j hj)
      have p1 : i + 1 < s.size := (hall 1 (by omega)).1
      have y1 : (0 : Int) ≤ (i : Int) + 1 := by omega
      have z1 : (i : Int) + 1 < (s.size : Int) := by omega
      have x1 : IntKind.i64.wrap ((i : Int) + 1) = (i : Int) + 1 := by rw [IntKind.wrap_i64]; omega
      have p2 : i + 2 < s.size := (hall 2 (by omega)).1
      have y2 : (0 : Int) ≤ (i : Int) + 2 := by omega
      have z2 : (i : Int) + 2 < (s.size : Int) := by omega
      have x2 : IntKind.i64.wrap ((i : Int) + 2) = (i : Int) + 2 := by rw [IntKind.wrap_i64]; omega
      have p3 : i + 3 < s.size := (hall 3 (by omega)).1
      have y3 : (0 : Int) ≤ (i : Int) + 3 := by omega
      have z3 : (i : Int) + 3 < (s.size : Int) := by omega
      have x3 : IntKind.i64.wrap ((i : Int) + 3) = (i : Int) + 3 := by rw [IntKind.wrap_i64]; omega
      have p4 : i + 4 < s.size := (hall 4 (by omega)).1
      have y4 : (0 : Int) ≤ (i : Int) + 4 := by omega
      have z4 : (i : Int) + 4 < (s.size : Int) := by omega
      have x4 : IntKind.i64.wrap ((i : Int) + 4) = (i : Int) + 4 := by rw [IntKind.wrap_i64]; omega
      have p5 : i + 5 < s.size := (hall 5 (by omega)).1
      have y5 : (0 : Int) ≤ (i : Int) + 5 := by omega
      have z5 : (i : Int) + 5 < (s.size : Int) := by omega
      have x5 : IntKind.i64.wrap ((i : Int) + 5) = (i : Int) + 5 := by rw [IntKind.wrap_i64]; omega
      have p6 : i + 6 < s.size := (hall 6 (by omega)).1
      have y6 : (0 : Int) ≤ (i : Int) + 6 := by omega
      have z6 : (i : Int) + 6 < (s.size : Int) := by omega
      have x6 : IntKind.i64.wrap ((i : Int) + 6) = (i : Int) + 6 := by rw [IntKind.wrap_i64]; omega
      have p7 : i + 7 < s.size := (hall 7 (by omega)).1
      have y7 : (0 : Int) ≤ (i : Int) + 7 := by omega
      have z7 : (i : Int) + 7 < (s.size : Int) := by omega
      have x7 : IntKind.i64.wrap ((i : Int) + 7) = (i : Int) + 7 := by rw [IntKind.wrap_i64]; omega
      have p8 : i + 8 < s.size := (hall 8 (by omega)).1
      have y8 : (0 : Int) ≤ (i : Int) + 8 := by omega
      have z8 : (i : Int) + 8 < (s.size : Int) := by omega
      have x8 : IntKind.i64.wrap ((i : Int) + 8) = (i : Int) + 8 := by rw [IntKind.wrap_i64]; omega
      have x9 : IntKind.i64.wrap ((i : Int) + 9) = (i : Int) + 9 := by rw [IntKind.wrap_i64]; omega
      have d2 := (hall 2 (by omega)).2
      have d3 := (hall 3 (by omega)).2
      have d4 := (hall 4 (by omega)).2
      have d5 := (hall 5 (by omega)).2
      rw [← bt_of p2] at d2
      rw [← bt_of p3] at d3
      rw [← bt_of p4] at d4
      rw [← bt_of p5] at d5
      obtain ⟨d2a, d2b⟩ : (48 : Int) ≤ (s[i + 2].toNat : Int) ∧ (s[i + 2].toNat : Int) ≤ 57 := by simp [sigB] at d2; omega
      obtain ⟨d3a, d3b⟩ : (48 : Int) ≤ (s[i + 3].toNat : Int) ∧ (s[i + 3].toNat : Int) ≤ 57 := by simp [sigB, isDigB] at d3; omega
      obtain ⟨d4a, d4b⟩ : (48 : Int) ≤ (s[i + 4].toNat : Int) ∧ (s[i + 4].toNat : Int) ≤ 57 := by simp [sigB] at d4; omega
      obtain ⟨d5a, d5b⟩ : (48 : Int) ≤ (s[i + 5].toNat : Int) ∧ (s[i + 5].toNat : Int) ≤ 57 := by simp [sigB, isDigB] at d5; omega
      clear d2 d3 d4 d5
      have HA := hide hall
      have HNN := hide hN
      clear hall hN
      go_wp2
      refine wp_region_noPanic ?_
      refine wp_region_held_drew (S := fun _ => True) (by kernel_rfl) trivial (fun hHeld => ?_)
      refine wpAnyH_take (i := 0) (v := ?_) (at_list rfl) (by kernel_rfl) (by kernel_rfl) (by kernel_rfl) (fun _ _ _ h => h) (Or.inl ⟨by rfl, ?_⟩) (by assumption) ?_
      rotate_left
      · intro w hSw; (try dsimp only at hSw); first | (go_simp; done) | (go_simp; with_reducible rfl)
      try simp only [Act.put]
      try simp only [List.setIfInBounds_toArray]
      try simp only [List.set_cons_succ]
      try simp only [List.set_cons_zero]
      refine wpAnyH_take (i := 1) (v := ?_) (at_list rfl) (by kernel_rfl) (by kernel_rfl) (by kernel_rfl) (fun _ _ _ h => h) (Or.inl ⟨by rfl, ?_⟩) (by assumption) ?_
      rotate_left
      · intro w hSw; (try dsimp only at hSw); first | (go_simp; done) | (go_simp; with_reducible rfl)
      try simp only [Act.put]
      try simp only [List.setIfInBounds_toArray]
      try simp only [List.set_cons_succ]
      try simp only [List.set_cons_zero]
      refine wpAnyH_take (i := 2) (v := ?_) (at_list rfl) (by kernel_rfl) (by kernel_rfl) (by kernel_rfl) (fun _ _ _ h => h) (Or.inl ⟨by rfl, ?_⟩) (by assumption) ?_
      rotate_left
      · intro w hSw; (try dsimp only at hSw); first | (go_simp; done) | (go_simp; with_reducible rfl)
      try simp only [Act.put]
      try simp only [List.setIfInBounds_toArray]
      try simp only [List.set_cons_succ]
      try simp only [List.set_cons_zero]
      refine wpAnyH_take (i := 3) (v := ?_) (at_list rfl) (by kernel_rfl) (by kernel_rfl) (by kernel_rfl) (fun _ _ _ h => h) (Or.inl ⟨by rfl, ?_⟩) (by assumption) ?_
      rotate_left
      · intro w hSw; (try dsimp only at hSw); first | (go_simp; done) | (go_simp; with_reducible rfl)
      try simp only [Act.put]
      try simp only [List.setIfInBounds_toArray]
      try simp only [List.set_cons_succ]
      try simp only [List.set_cons_zero]
      refine wpAnyH_take (i := 4) (v := ?_) (at_list rfl) (by kernel_rfl) (by kernel_rfl) (by kernel_rfl) (fun _ _ _ h => h) (Or.inl ⟨by rfl, ?_⟩) (by assumption) ?_
      rotate_left
      · intro w hSw; (try dsimp only at hSw); first | (go_simp; done) | (go_simp; with_reducible rfl)
      try simp only [Act.put]
      try simp only [List.setIfInBounds_toArray]
      try simp only [List.set_cons_succ]
      try simp only [List.set_cons_zero]
      refine wpAnyH_take (i := 5) (v := ?_) (at_list rfl) (by kernel_rfl) (by kernel_rfl) (by kernel_rfl) (fun _ _ _ h => h) (Or.inl ⟨by rfl, ?_⟩) (by assumption) ?_
      rotate_left
      · intro w hSw; (try dsimp only at hSw); first | (go_simp; done) | (go_simp; with_reducible rfl)
      try simp only [Act.put]
      try simp only [List.setIfInBounds_toArray]
      try simp only [List.set_cons_succ]
      try simp only [List.set_cons_zero]
      refine wpAnyH_take (i := 6) (v := ?_) (at_list rfl) (by kernel_rfl) (by kernel_rfl) (by kernel_rfl) (fun _ _ _ h => h) (Or.inl ⟨by rfl, ?_⟩) (by assumption) ?_
      rotate_left
      · intro w hSw; (try dsimp only at hSw); first | (go_simp; done) | (go_simp; with_reducible rfl)
      try simp only [Act.put]
      try simp only [List.setIfInBounds_toArray]
      try simp only [List.set_cons_succ]
      try simp only [List.set_cons_zero]
      refine wpAnyH_take (i := 7) (v := ?_) (at_list rfl) (by kernel_rfl) (by kernel_rfl) (by kernel_rfl) (fun _ _ _ h => h) (Or.inl ⟨by rfl, ?_⟩) (by assumption) ?_
      rotate_left
      · intro w hSw; (try dsimp only at hSw); first | (go_simp; done) | (go_simp; with_reducible rfl)
      try simp only [Act.put]
      try simp only [List.setIfInBounds_toArray]
      try simp only [List.set_cons_succ]
      try simp only [List.set_cons_zero]
      refine wpAnyH_take (i := 8) (v := ?_) (at_list rfl) (by kernel_rfl) (by kernel_rfl) (by kernel_rfl) (fun _ _ _ h => h) (Or.inl ⟨by rfl, ?_⟩) (by assumption) ?_
      rotate_left
      · intro w hSw; (try dsimp only at hSw); first | (go_simp; done) | (go_simp; with_reducible rfl)
      try simp only [Act.put]
      try simp only [List.setIfInBounds_toArray]
      try simp only [List.set_cons_succ]
      try simp only [List.set_cons_zero]
      refine wpAnyH_take (i := 9) (v := ?_) (at_list rfl) (by kernel_rfl) (by kernel_rfl) (by kernel_rfl) (fun _ _ _ h => h) (Or.inl ⟨by rfl, ?_⟩) (by assumption) ?_
      rotate_left
      · intro w hSw; (try dsimp only at hSw); first | (go_simp; done) | (go_simp; with_reducible rfl)
      try simp only [Act.put]
      try simp only [List.setIfInBounds_toArray]
      try simp only [List.set_cons_succ]
      try simp only [List.set_cons_zero]
      refine wpAnyH_take (i := 10) (v := ?_) (at_list rfl) (by kernel_rfl) (by kernel_rfl) (by kernel_rfl) (fun _ _ _ h => h) (Or.inl ⟨by rfl, ?_⟩) (by assumption) ?_
      rotate_left
      · intro w hSw; (try dsimp only at hSw); first | (go_simp; done) | (go_simp; with_reducible rfl)
      try simp only [Act.put]
      try simp only [List.setIfInBounds_toArray]
      try simp only [List.set_cons_succ]
      try simp only [List.set_cons_zero]
      refine wpAnyH_take (i := 11) (v := ?_) (at_list rfl) (by kernel_rfl) (by kernel_rfl) (by kernel_rfl) (fun _ _ _ h => h) (Or.inl ⟨by rfl, ?_⟩) (by assumption) ?_
      rotate_left
      · intro w hSw; (try dsimp only at hSw); first | (go_simp; done) | (go_simp; with_reducible rfl)
      try simp only [Act.put]
      try simp only [List.setIfInBounds_toArray]
      try simp only [List.set_cons_succ]
      try simp only [List.set_cons_zero]
      refine wpAnyH_take (i := 13) (v := ?_) (at_list rfl) (by kernel_rfl) (by kernel_rfl) (by kernel_rfl) (fun _ _ _ h => h) (Or.inl ⟨by rfl, ?_⟩) (by assumption) ?_
      rotate_left
      · intro w hSw; (try dsimp only at hSw); first | (go_simp; done) | (go_simp; with_reducible rfl)
      try simp only [Act.put]
      try simp only [List.setIfInBounds_toArray]
      try simp only [List.set_cons_succ]
      try simp only [List.set_cons_zero]
      refine wpAnyH_take (i := 14) (v := ?_) (at_list rfl) (by kernel_rfl) (by kernel_rfl) (by kernel_rfl) (fun _ _ _ h => h) (Or.inl ⟨by rfl, ?_⟩) (by assumption) ?_
      rotate_left
      · intro w hSw; (try dsimp only at hSw); first | (go_simp; done) | (go_simp; with_reducible rfl)
      try simp only [Act.put]
      try simp only [List.setIfInBounds_toArray]
      try simp only [List.set_cons_succ]
      try simp only [List.set_cons_zero]
      refine wpAnyH_take (i := 15) (v := ?_) (at_list rfl) (by kernel_rfl) (by kernel_rfl) (by kernel_rfl) (fun _ _ _ h => h) (Or.inl ⟨by rfl, ?_⟩) (by assumption) ?_
      rotate_left
      · intro w hSw; (try dsimp only at hSw); first | (go_simp; done) | (go_simp; with_reducible rfl)
      try simp only [Act.put]
      try simp only [List.setIfInBounds_toArray]
      try simp only [List.set_cons_succ]
      try simp only [List.set_cons_zero]
      refine wpAnyH_take (i := 16) (v := ?_) (at_list rfl) (by kernel_rfl) (by kernel_rfl) (by kernel_rfl) (fun _ _ _ h => h) (Or.inl ⟨by rfl, ?_⟩) (by assumption) ?_
      rotate_left
      · intro w hSw; (try dsimp only at hSw); first | (go_simp; done) | (go_simp; with_reducible rfl)
      try simp only [Act.put]
      try simp only [List.setIfInBounds_toArray]
      try simp only [List.set_cons_succ]
      try simp only [List.set_cons_zero]
      refine wpAnyH_take (i := 17) (v := ?_) (at_list rfl) (by kernel_rfl) (by kernel_rfl) (by kernel_rfl) (fun _ _ _ h => h) (Or.inl ⟨by rfl, ?_⟩) (by assumption) ?_
      rotate_left
      · intro w hSw; (try dsimp only at hSw); first | (go_simp; done) | (go_simp; with_reducible rfl)
      try simp only [Act.put]
      try simp only [List.setIfInBounds_toArray]
      try simp only [List.set_cons_succ]
      try simp only [List.set_cons_zero]
      refine wpAnyH_take (i := 18) (v := ?_) (at_list rfl) (by kernel_rfl) (by kernel_rfl) (by kernel_rfl) (fun _ _ _ h => h) (Or.inl ⟨by rfl, ?_⟩) (by assumption) ?_
      rotate_left
      · intro w hSw; (try dsimp only at hSw); first | (go_simp; done) | (go_simp; with_reducible rfl)
      try simp only [Act.put]
      try simp only [List.setIfInBounds_toArray]
      try simp only [List.set_cons_succ]
      try simp only [List.set_cons_zero]
      refine wpAnyH_take (i := 19) (v := ?_) (at_list rfl) (by kernel_rfl) (by kernel_rfl) (by kernel_rfl) (fun _ _ _ h => h) (Or.inl ⟨by rfl, ?_⟩) (by assumption) ?_
      rotate_left
      · intro w hSw; (try dsimp only at hSw); first | (go_simp; done) | (go_simp; with_reducible rfl)
      try simp only [Act.put]
      try simp only [List.setIfInBounds_toArray]
      try simp only [List.set_cons_succ]
      try simp only [List.set_cons_zero]
      refine wpAnyH_take (i := 20) (v := ?_) (at_list rfl) (by kernel_rfl) (by kernel_rfl) (by kernel_rfl) (fun _ _ _ h => h) (Or.inl ⟨by rfl, ?_⟩) (by assumption) ?_
      rotate_left
      · intro w hSw; (try dsimp only at hSw); first | (go_simp; done) | (go_simp; with_reducible rfl)
      try simp only [Act.put]
      try simp only [List.setIfInBounds_toArray]
      try simp only [List.set_cons_succ]
      try simp only [List.set_cons_zero]
      refine wpAnyH_take (i := 22) (v := ?_) (at_list rfl) (by kernel_rfl) (by kernel_rfl) (by kernel_rfl) (fun _ _ _ h => h) (Or.inl ⟨by rfl, ?_⟩) (by assumption) ?_
      rotate_left
      · intro w hSw; (try dsimp only at hSw); first | (go_simp; done) | (go_simp; with_reducible rfl)
      try simp only [Act.put]
      try simp only [List.setIfInBounds_toArray]
      try simp only [List.set_cons_succ]
      try simp only [List.set_cons_zero]
      refine wpAnyH_take (i := 23) (v := ?_) (at_list rfl) (by kernel_rfl) (by kernel_rfl) (by kernel_rfl) (fun _ _ _ h => h) (Or.inl ⟨by rfl, ?_⟩) (by assumption) ?_
      rotate_left
      · intro w hSw; (try dsimp only at hSw); first | (go_simp; done) | (go_simp; with_reducible rfl)
      try simp only [Act.put]
      try simp only [List.setIfInBounds_toArray]
      try simp only [List.set_cons_succ]
      try simp only [List.set_cons_zero]
      refine wpAnyH_take (i := 24) (v := ?_) (at_list rfl) (by kernel_rfl) (by kernel_rfl) (by kernel_rfl) (fun _ _ _ h => h) (Or.inl ⟨by rfl, ?_⟩) (by assumption) ?_
      rotate_left
      · intro w hSw; (try dsimp only at hSw); first | (go_simp; done) | (go_simp; with_reducible rfl)
      try simp only [Act.put]
      try simp only [List.setIfInBounds_toArray]
      try simp only [List.set_cons_succ]
      try simp only [List.set_cons_zero]
      refine wpAnyH_take (i := 25) (v := ?_) (at_list rfl) (by kernel_rfl) (by kernel_rfl) (by kernel_rfl) (fun _ _ _ h => h) (Or.inl ⟨by rfl, ?_⟩) (by assumption) ?_
      rotate_left
      · intro w hSw; (try dsimp only at hSw); first | (go_simp; done) | (go_simp; with_reducible rfl)
      try simp only [Act.put]
      try simp only [List.setIfInBounds_toArray]
      try simp only [List.set_cons_succ]
      try simp only [List.set_cons_zero]
      refine wpAnyH_take (i := 26) (v := ?_) (at_list rfl) (by kernel_rfl) (by kernel_rfl) (by kernel_rfl) (fun _ _ _ h => h) (Or.inl ⟨by rfl, ?_⟩) (by assumption) ?_
      rotate_left
      · intro w hSw; (try dsimp only at hSw); first | (go_simp; done) | (go_simp; with_reducible rfl)
      try simp only [Act.put]
      try simp only [List.setIfInBounds_toArray]
      try simp only [List.set_cons_succ]
      try simp only [List.set_cons_zero]
      refine wpAnyH_take (i := 27) (v := ?_) (at_list rfl) (by kernel_rfl) (by kernel_rfl) (by kernel_rfl) (fun _ _ _ h => h) (Or.inl ⟨by rfl, ?_⟩) (by assumption) ?_
      rotate_left
      · intro w hSw; (try dsimp only at hSw); first | (go_simp; done) | (go_simp; with_reducible rfl)
      try simp only [Act.put]
      try simp only [List.setIfInBounds_toArray]
      try simp only [List.set_cons_succ]
      try simp only [List.set_cons_zero]
      refine wpAnyH_take (i := 28) (v := ?_) (at_list rfl) (by kernel_rfl) (by kernel_rfl) (by kernel_rfl) (fun _ _ _ h => h) (Or.inl ⟨by rfl, ?_⟩) (by assumption) ?_
      rotate_left
      · intro w hSw; (try dsimp only at hSw); first | (go_simp; done) | (go_simp; with_reducible rfl)
      try simp only [Act.put]
      try simp only [List.setIfInBounds_toArray]
      try simp only [List.set_cons_succ]
      try simp only [List.set_cons_zero]
      refine wpAnyH_take (i := 29) (v := ?_) (at_list rfl) (by kernel_rfl) (by kernel_rfl) (by kernel_rfl) (fun _ _ _ h => h) (Or.inl ⟨by rfl, ?_⟩) (by assumption) ?_
      rotate_left
      · intro w hSw; (try dsimp only at hSw); first | (go_simp; done) | (go_simp; with_reducible rfl)
      try simp only [Act.put]
      try simp only [List.setIfInBounds_toArray]
      try simp only [List.set_cons_succ]
      try simp only [List.set_cons_zero]
      refine wpAnyH_take (i := 30) (v := ?_) (at_list rfl) (by kernel_rfl) (by kernel_rfl) (by kernel_rfl) (fun _ _ _ h => h) (Or.inl ⟨by rfl, ?_⟩) (by assumption) ?_
      rotate_left
      · intro w hSw; (try dsimp only at hSw); first | (go_simp; done) | (go_simp; with_reducible rfl)
      try simp only [Act.put]
      try simp only [List.setIfInBounds_toArray]
      try simp only [List.set_cons_succ]
      try simp only [List.set_cons_zero]
      refine wpAnyH_take (i := 31) (v := ?_) (at_list rfl) (by kernel_rfl) (by kernel_rfl) (by kernel_rfl) (fun _ _ _ h => h) (Or.inl ⟨by rfl, ?_⟩) (by assumption) ?_
      rotate_left
      · intro w hSw; (try dsimp only at hSw); first | (go_simp; done) | (go_simp; with_reducible rfl)
      try simp only [Act.put]
      try simp only [List.setIfInBounds_toArray]
      try simp only [List.set_cons_succ]
      try simp only [List.set_cons_zero]
      refine wpAnyH_take (i := 32) (v := ?_) (at_list rfl) (by kernel_rfl) (by kernel_rfl) (by kernel_rfl) (fun _ _ _ h => h) (Or.inl ⟨by rfl, ?_⟩) (by assumption) ?_
      rotate_left
      · intro w hSw; (try dsimp only at hSw); first | (go_simp; done) | (go_simp; with_reducible rfl)
      try simp only [Act.put]
      try simp only [List.setIfInBounds_toArray]
      try simp only [List.set_cons_succ]
      try simp only [List.set_cons_zero]
      refine wpAnyH_take (i := 33) (v := ?_) (at_list rfl) (by kernel_rfl) (by kernel_rfl) (by kernel_rfl) (fun _ _ _ h => h) (Or.inl ⟨by rfl, ?_⟩) (by assumption) ?_
      rotate_left
      · intro w hSw; (try dsimp only at hSw); first | (go_simp; done) | (go_simp; with_reducible rfl)
      try simp only [Act.put]
      try simp only [List.setIfInBounds_toArray]
      try simp only [List.set_cons_succ]
      try simp only [List.set_cons_zero]
      refine wpAnyH_take (i := 34) (v := ?_) (at_list rfl) (by kernel_rfl) (by kernel_rfl) (by kernel_rfl) (fun _ _ _ h => h) (Or.inl ⟨by rfl, ?_⟩) (by assumption) ?_
      rotate_left
      · intro w hSw; (try dsimp only at hSw); first | (go_simp; done) | (go_simp; with_reducible rfl)
      try simp only [Act.put]
      try simp only [List.setIfInBounds_toArray]
      try simp only [List.set_cons_succ]
      try simp only [List.set_cons_zero]
      refine wpAnyH_take (i := 35) (v := ?_) (at_list rfl) (by kernel_rfl) (by kernel_rfl) (by kernel_rfl) (fun _ _ _ h => h) (Or.inl ⟨by rfl, ?_⟩) (by assumption) ?_
      rotate_left
      · intro w hSw; (try dsimp only at hSw); first | (go_simp; done) | (go_simp; with_reducible rfl)
      try simp only [Act.put]
      try simp only [List.setIfInBounds_toArray]
      try simp only [List.set_cons_succ]
      try simp only [List.set_cons_zero]
      refine wpAnyH_take (i := 36) (v := ?_) (at_list rfl) (by kernel_rfl) (by kernel_rfl) (by kernel_rfl) (fun _ _ _ h => h) (Or.inl ⟨by rfl, ?_⟩) (by assumption) ?_
      rotate_left
      · intro w hSw; (try dsimp only at hSw); first | (go_simp; done) | (go_simp; with_reducible rfl)
      try simp only [Act.put]
      try simp only [List.setIfInBounds_toArray]
      try simp only [List.set_cons_succ]
      try simp only [List.set_cons_zero]
      refine wpAnyH_take (i := 37) (v := ?_) (at_list rfl) (by kernel_rfl) (by kernel_rfl) (by kernel_rfl) (fun _ _ _ h => h) (Or.inl ⟨by rfl, ?_⟩) (by assumption) ?_
      rotate_left
      · intro w hSw; (try dsimp only at hSw); first | (go_simp; done) | (go_simp; with_reducible rfl)
      try simp only [Act.put]
      try simp only [List.setIfInBounds_toArray]
      try simp only [List.set_cons_succ]
      try simp only [List.set_cons_zero]
      refine wpAnyH_take (i := 39) (v := ?_) (at_list rfl) (by kernel_rfl) (by kernel_rfl) (by kernel_rfl) (fun _ _ _ h => h) (Or.inl ⟨by rfl, ?_⟩) (by assumption) ?_
      rotate_left
      · intro w hSw; (try dsimp only at hSw); first | (go_simp; done) | (go_simp; with_reducible rfl)
      try simp only [Act.put]
      try simp only [List.setIfInBounds_toArray]
      try simp only [List.set_cons_succ]
      try simp only [List.set_cons_zero]
      refine wpAnyH_take (i := 40) (v := ?_) (at_list rfl) (by kernel_rfl) (by kernel_rfl) (by kernel_rfl) (fun _ _ _ h => h) (Or.inl ⟨by rfl, ?_⟩) (by assumption) ?_
      rotate_left
      · intro w hSw; (try dsimp only at hSw); first | (go_simp; done) | (go_simp; with_reducible rfl)
      try simp only [Act.put]
      try simp only [List.setIfInBounds_toArray]
      try simp only [List.set_cons_succ]
      try simp only [List.set_cons_zero]
      refine wpAnyH_ready (rs := [12]) (by kernel_rfl) (by simp) ?_
      refine AllReadyH.cons (at_list rfl) (fun K hK => ?_) AllReadyH.nil
      go_simp
      refine (rPair_any _ _ _ d2a d2b d3a d3b).mono ?_; rintro e w' ⟨rfl, rfl⟩; dsimp only
      refine hK.out _ _ (trivial) (fun hHeld => ?_)
      clear hK K
      try simp only [Act.put]
      try simp only [List.setIfInBounds_toArray]
      try simp only [List.set_cons_succ]
      try simp only [List.set_cons_zero]
      refine wpAnyH_ready (rs := [21]) (by kernel_rfl) (by simp) ?_
      refine AllReadyH.cons (at_list rfl) (fun K hK => ?_) AllReadyH.nil
      go_simp
      refine (rPair_any _ _ _ d4a d4b d5a d5b).mono ?_; rintro e w' ⟨rfl, rfl⟩; dsimp only
      refine hK.out _ _ (trivial) (fun hHeld => ?_)
      clear hK K
      try simp only [Act.put]
      try simp only [List.setIfInBounds_toArray]
      try simp only [List.set_cons_succ]
      try simp only [List.set_cons_zero]
      refine wpAnyH_take (i := 38) (v := ?_) (at_list rfl) (by kernel_rfl) (by kernel_rfl) (by kernel_rfl) (fun _ _ _ h => h) (Or.inl ⟨by rfl, ?_⟩) (by assumption) ?_
      rotate_left
      · intro w hSw; (try dsimp only at hSw); first | (go_simp; done) | (go_simp; with_reducible rfl)
      try simp only [Act.put]
      try simp only [List.setIfInBounds_toArray]
      try simp only [List.set_cons_succ]
      try simp only [List.set_cons_zero]
      refine wpAnyH_ready (rs := [41]) (by kernel_rfl) (by simp) ?_
      refine AllReadyH.cons (at_list rfl) (fun K hK => ?_) AllReadyH.nil
      go_simp
      refine hK.out _ _ (trivial) (fun hHeld => ?_)
      clear hK K
      try simp only [Act.put]
      try simp only [List.setIfInBounds_toArray]
      try simp only [List.set_cons_succ]
      try simp only [List.set_cons_zero]
      refine wpAnyH_take (i := 42) (v := ?_) (at_list rfl) (by kernel_rfl) (by kernel_rfl) (by kernel_rfl) (fun _ _ _ h => h) (Or.inl ⟨by rfl, ?_⟩) (by assumption) ?_
      rotate_left
      · intro w hSw; (try dsimp only at hSw); first | (go_simp; done) | (go_simp; with_reducible rfl)
      try simp only [Act.put]
      try simp only [List.setIfInBounds_toArray]
      try simp only [List.set_cons_succ]
      try simp only [List.set_cons_zero]
      refine wpAnyH_take (i := 43) (v := ?_) (at_list rfl) (by kernel_rfl) (by kernel_rfl) (by kernel_rfl) (fun _ _ _ h => h) (Or.inl ⟨by rfl, ?_⟩) (by assumption) ?_
      rotate_left
      · intro w hSw; (try dsimp only at hSw); first | (go_simp; done) | (go_simp; with_reducible rfl)
      try simp only [Act.put]
      try simp only [List.setIfInBounds_toArray]
      try simp only [List.set_cons_succ]
      try simp only [List.set_cons_zero]
      refine wpAnyH_done (by kernel_rfl) ?_ _
      refine NoPanic.normal ?_
      go_wp2
      have q6 : s[((i : Int) + 6).toNat]'(by omega) = s[i + 6] := getElem_congr rfl (by omega) _
      have q7 : s[((i : Int) + 7).toNat]'(by omega) = s[i + 7] := getElem_congr rfl (by omega) _
      have q8 : s[((i : Int) + 8).toNat]'(by omega) = s[i + 8] := getElem_congr rfl (by omega) _
      exact bodyPost_ret (v := .tuple #[.agg #[.int .u8 s[i + 1].toNat, .int .i64 (10 * worth s[i + 2].toNat + worth s[i + 3].toNat), .int .i64 (10 * worth s[i + 4].toNat + worth s[i + 5].toNat), .bool ((s[i + 6].toNat : Int) == 62), .bool ((s[i + 7].toNat : Int) == 115), .int .u8 s[i + 8].toNat, .int .i64 (i + 1)], .int .i64 (i + 9), .bool true]) (by simp [results, Try.results94, go_sem, q6, q7, q8]) rfl ⟨ret_val (rSigOut_good (unhide HNN) p1 p2 p3 p4 p5 p6 p7 p8), ((Below.refl _ _).alloc (Nat.le_refl _) _).drew⟩

end Go.Proofs.Ytoihlnjcgopdlab

namespace Go.Proofs.Ytoihlnjcgopdlab
open Go.RowKit

/-- Can two signals of these roles be active together? -/
def meetR (a b : Int) : Bool := decide (a = b) || !isDigB a || !isDigB b

set_option maxHeartbeats 400000 in
theorem rTogether_any (a b : Sg) (w : World) :
    Calls Try.prog 76 #[.agg #[.int .u8 a.nm, .int .i64 a.st, .int .i64 a.ln, .bool (decide (a.od = 62)), .bool (decide (a.kd = 115)), .int .u8 a.rl, .int .i64 a.pl],
      .agg #[.int .u8 b.nm, .int .i64 b.st, .int .i64 b.ln, .bool (decide (b.od = 62)), .bool (decide (b.kd = 115)), .int .u8 b.rl, .int .i64 b.pl]] w
      fun e w' => e = .returned (.bool (meetR a.rl b.rl)) ∧ Below w.heap.size w w' := by
  generalize decide (a.od = 62) = x1
  generalize decide (a.kd = 115) = x2
  generalize decide (b.od = 62) = x3
  generalize decide (b.kd = 115) = x4
  cases h1 : isDigB a.rl <;> cases h2 : isDigB b.rl <;> by_cases h3 : (a.rl == b.rl) = true
  all_goals
    go_enter Try.func76, Try.ntmps76
    go_wp2_with (go_at_call 46; refine (rIsDigit_any _ _).mono ?_; rintro e w' ⟨rfl, rfl⟩)
    all_goals (go_ret; exact ⟨ret_bool (by simp_all [meetR]), ((Below.refl _ _).alloc (Nat.le_refl _) _).alloc (by simp) _⟩)

theorem alloc_cell {w : World} {o : Obj} {g j : Nat} (hg : g < w.heap.size) : (w.alloc o).cell? ⟨g, j, none⟩ = w.cell? ⟨g, j, none⟩ :=
  ((Below.refl w.heap.size w).alloc (Nat.le_refl _) o).cell (p := ⟨g, j, none⟩) hg

set_option maxHeartbeats 400000 in
theorem rMux_any (id : ByteArray) (sz pl : Int) (v : Value) (L : List Sg) (w : World) (h : RSigsAt w v L) (hl : L.length ≤ 8) :
    Calls Try.prog 75 #[.agg #[.string id, .int .i64 sz, v, .int .i64 pl]] w fun e w' => e = .returned (.int .i64 (muxOf L)) ∧ Below w.heap.size w w' := by
  rcases h.opened with ⟨rfl, a, c, rfl⟩ | ⟨g, cap, rfl, hg, hcap, _, hc⟩
  · go_enter Try.func75, Try.ntmps75
    go_wp2
    refine wp_loop_rounds 1 ?_
    rw [rounds_succ]
    go_wp2
    go_ret
    exact ⟨ret_int (by simp [muxOf, findIx]), (Below.refl _ _).alloc (Nat.le_refl _) _⟩
  · have HC := hide hc
    clear hc
    go_enter Try.func75, Try.ntmps75
    go_wp2
    go_loop [3] (fun i => ∃ k : Nat, k ≤ L.length ∧ i = .int .i64 k ∧ ∀ j, j < k → decide ((sgAt L j).rl = 77) = false) (fun i => L.length - (intOf i).toNat)
    case atStart => exact ⟨0, by omega, rfl, by intro j hj; omega⟩
    case round =>
      obtain ⟨k, hk, rfl, hno⟩ := hrel
      have HN := hide hno
      clear hno
      by_cases hlt : k < L.length
      · have hc6 : ∀ o : Obj, (w.alloc o).cell? ⟨g, k * 7 + 5, none⟩ = some (.int .u8 (sgAt L k).rl) := fun o => by rw [alloc_cell hg]; exact (unhide HC) k 5 hlt (by omega)
        by_cases hm : (sgAt L k).rl = 77
        · have hmb : ((sgAt L k).rl == 77) = true := by simp [hm]
          have HM := hide hm
          clear hm
          go_wp2
          go_ret
          exact ⟨ret_int (by rw [muxOf, findIx_is (unhide HN) hlt (by simpa using unhide HM)]), (Below.refl _ _).alloc (Nat.le_refl _) _⟩
        · have hmb : ((sgAt L k).rl == 77) = false := by simp [hm]
          have HM := hide hm
          clear hm
          go_wp2
          go_round
          case rel => exact ⟨k + 1, by omega, by go_num, fun j hj => by
            by_cases e : j = k
            · subst e; simpa using unhide HM
            · exact unhide HN j (by omega)⟩
          case measure => simp [intOf]; omega
      · go_wp2
        go_ret
        exact ⟨ret_int (by rw [muxOf, findIx_none (fun j hj => unhide HN j (by omega))]), (Below.refl _ _).alloc (Nat.le_refl _) _⟩

end Go.Proofs.Ytoihlnjcgopdlab

namespace Go.Proofs.Ytoihlnjcgopdlab
open Go.RowKit

theorem ret_u64 {a b : Int} (h : a = b) : Ending.returned (.int .u64 a) = .returned (.int .u64 b) := by rw [h]

theorem place_lo (st ln od i : Int) (h0 : 0 ≤ st) (h5 : 0 ≤ i) (h6 : i < ln) : 0 ≤ place st ln od i := by
  unfold place
  split
  · omega
  · unfold mir; omega
theorem place_hi (st ln od i : Int) (h0 : 0 ≤ st) (h1 : st ≤ 63) (h3 : ln ≤ 32) (h5 : 0 ≤ i) (h6 : i < ln) : place st ln od i ≤ 200 := by
  unfold place
  split
  · omega
  · unfold mir; omega

/-- Bit k of a number as a uint64. -/
def bitv (v : Int) (k : Nat) : Nat := ((v % 18446744073709551616) / 2 ^ k % 2).toNat
theorem bitv_lt (v : Int) (k : Nat) : bitv v k < 2 := by unfold bitv; omega
/-- The payload's number behind k bits of a signal. -/
def layTo (st ln od v : Int) : Nat → Nat
  | 0 => 0
  | k + 1 => layTo st ln od v k ||| (bitv v k * 2 ^ (place st ln od k).toNat)

theorem bit_pow_lt (b p : Nat) (hb : b < 2) (hp : p ≤ 63) : b * 2 ^ p < 18446744073709551616 := by
  have h : 2 ^ p ≤ 2 ^ 63 := Nat.pow_le_pow_right (by omega) hp
  have e : (2 : Nat) ^ 63 = 9223372036854775808 := rfl
  rw [e] at h
  obtain rfl | rfl : b = 0 ∨ b = 1 := by omega
  · omega
  · omega

theorem layTo_lt (st ln od v : Int) (n : Nat) (hp : ∀ i : Int, 0 ≤ i → i < n → 0 ≤ place st ln od i ∧ place st ln od i ≤ 63) : layTo st ln od v n < 18446744073709551616 := by
  induction n with
  | zero => simp [layTo]
  | succ k ih =>
    have e : (18446744073709551616 : Nat) = 2 ^ 64 := rfl
    have h1 := ih (fun i h h' => hp i h (by omega))
    have h2 := bit_pow_lt (bitv v k) (place st ln od k).toNat (bitv_lt v k) (by have := hp k (by omega) (by omega); omega)
    rw [e] at h1 h2 ⊢
    exact Nat.or_lt_two_pow h1 h2

theorem lay_step (st ln od v : Int) (k : Nat) (h : layTo st ln od v k < 18446744073709551616) (h0 : 0 ≤ place st ln od k) (h1 : place st ln od k ≤ 63) :
    bits BinOp.or IntKind.u64 (layTo st ln od v k : Int) (IntKind.u64.wrap (bits BinOp.and IntKind.u64 (IntKind.u64.wrap v / 2 ^ k) 1 * 2 ^ (place st ln od k).toNat)) = (layTo st ln od v (k + 1) : Nat) := by
  have hb := bitv_lt v k
  have hp := bit_pow_lt (bitv v k) (place st ln od k).toNat hb (by omega)
  have e1 : bits BinOp.and IntKind.u64 (IntKind.u64.wrap v / 2 ^ k) 1 = (bitv v k : Int) := by
    rw [IntKind.wrap_u64]
    have h2 : (0 : Int) ≤ v % 18446744073709551616 / 2 ^ k := Int.ediv_nonneg (by omega) (Int.le_of_lt (Int.pow_pos (by omega)))
    have h3 : v % 18446744073709551616 / 2 ^ k ≤ v % 18446744073709551616 := Int.ediv_le_self _ (by omega)
    rw [and_one_u64 _ h2 (by omega), bitv]
    omega
  rw [e1]
  have e2 : ((bitv v k : Int) * 2 ^ (place st ln od k).toNat) = ((bitv v k * 2 ^ (place st ln od k).toNat : Nat) : Int) := by simp
  rw [e2, IntKind.wrap_u64]
  have e3 : ((bitv v k * 2 ^ (place st ln od k).toNat : Nat) : Int) % 18446744073709551616 = ((bitv v k * 2 ^ (place st ln od k).toNat : Nat) : Int) := by omega
  rw [e3, u64_or_nat _ _ h hp]
  rfl

/-- The world behind a boxed parameter, and what is read of it. -/
theorem box_cell {w wr : World} {o : Obj} (hb : Below (w.heap.size + 1) (w.alloc o) wr) (j : Nat) : wr.cell? ⟨w.heap.size, j, none⟩ = (w.alloc o).cell? ⟨w.heap.size, j, none⟩ :=
  hb.cell (p := ⟨w.heap.size, j, none⟩) (by simp)
theorem box_below {w wr : World} {o : Obj} (hb : Below (w.heap.size + 1) (w.alloc o) wr) : Below w.heap.size w wr :=
  ((Below.refl _ _).alloc (Nat.le_refl _) _).trans (hb.mono (by omega))
theorem box_next {w wr w' : World} {o : Obj} (hb : Below (w.heap.size + 1) (w.alloc o) wr) (h : Below wr.heap.size wr w') : Below (w.heap.size + 1) (w.alloc o) w' :=
  hb.trans (h.mono (by have := hb.size; simp at this; omega))

set_option maxHeartbeats 400000 in
theorem layBits_any (a0 a1 st ln od a5 a6 v : Int) (w : World) (h0 : 0 ≤ st) (h1 : st ≤ 63) (h2 : 1 ≤ ln) (h3 : ln ≤ 32) (h4 : od = 60 ∨ od = 62) (hp : ∀ i, 0 ≤ i → i < ln → place st ln od i ≤ 63) :
    Calls Try.prog 81 #[.agg #[.int .i64 a0, .int .u8 a1, .int .i64 st, .int .i64 ln, .int .u8 od, .int .u8 a5, .int .u8 a6], .int .i64 v] w
      fun e w' => e = .returned (.int .u64 (layTo st ln od v ln.toNat)) ∧ Below w.heap.size w w' := by
  have H4 := hide h4
  have HP := hide hp
  clear h4 hp
  go_enter Try.func81, Try.ntmps81
  go_wp2
  go_loopw [5, 6, 7, 8] (fun b i _ _ wr => ∃ k : Nat, (k : Int) ≤ ln ∧ i = .int .i64 k ∧ b = .int .u64 (layTo st ln od v k) ∧ Below (w.heap.size + 1) (w.alloc (.cells #[.int .i64 a0, .int .u8 a1, .int .i64 st, .int .i64 ln, .int .u8 od, .int .u8 a5, .int .u8 a6] 117)) wr) (fun _ i _ _ _ => (ln - intOf i).toNat)
  case atStart => exact ⟨0, by omega, rfl, rfl, Below.refl _ _⟩
  case round =>
    obtain ⟨k, hk, rfl, rfl, hb⟩ := hrel
    have HB := hide hb
    have hc := box_cell hb
    clear hb
    by_cases hlt : (k : Int) < ln
    · have hp0 := place_lo st ln od k h0 (by omega) hlt
      have hp1 := unhide HP k (by omega) hlt
      have hlt64 := layTo_lt st ln od v k (fun i h h' => ⟨place_lo st ln od i h0 h (by omega), unhide HP i h (by omega)⟩)
      have HS := hide (lay_step st ln od v k hlt64 hp0 hp1)
      go_wp2_with fail
      refine (bitPlace_any a0 a1 st ln od a5 a6 k wr h0 h1 h2 h3 (unhide H4) (by omega) hlt).mono ?_
      rintro e w' ⟨rfl, hb'⟩
      go_wp2
      go_roundw
      case rel => exact ⟨k + 1, by omega, by go_num, by rw [unhide HS], box_next (unhide HB) hb'⟩
      case measure => simp [intOf]; omega
    · have hk2 : ln.toNat = k := by omega
      have HK := hide hk2
      clear hk2
      go_wp2
      go_ret
      exact ⟨ret_u64 (by rw [unhide HK]), box_below (unhide HB)⟩

set_option maxHeartbeats 400000 in
theorem reaches_any (a0 a1 st ln od a5 a6 p : Int) (w : World) (h0 : 0 ≤ st) (h1 : st ≤ 63) (h2 : 1 ≤ ln) (h3 : ln ≤ 32) (h4 : od = 60 ∨ od = 62) :
    Calls Try.prog 109 #[.agg #[.int .i64 a0, .int .u8 a1, .int .i64 st, .int .i64 ln, .int .u8 od, .int .u8 a5, .int .u8 a6], .int .i64 p] w
      fun e w' => e = .returned (.bool (anyIx (fun k => decide (p ≤ place st ln od k)) ln.toNat)) ∧ Below w.heap.size w w' := by
  have H4 := hide h4
  clear h4
  go_enter Try.func109, Try.ntmps109
  go_wp2
  go_loopw [5] (fun i wr => ∃ k : Nat, (k : Int) ≤ ln ∧ i = .int .i64 k ∧ (∀ j, j < k → decide (p ≤ place st ln od j) = false) ∧ Below (w.heap.size + 1) (w.alloc (.cells #[.int .i64 a0, .int .u8 a1, .int .i64 st, .int .i64 ln, .int .u8 od, .int .u8 a5, .int .u8 a6] 117)) wr) (fun i _ => (ln - intOf i).toNat)
  case atStart => exact ⟨0, by omega, rfl, by intro j hj; omega, Below.refl _ _⟩
  case round =>
    obtain ⟨k, hk, rfl, hno, hb⟩ := hrel
    have HN := hide hno
    have HB := hide hb
    have hc := box_cell hb
    clear hb hno
    by_cases hlt : (k : Int) < ln
    · by_cases hpk : p ≤ place st ln od k
      · go_wp2_with fail
        refine (bitPlace_any a0 a1 st ln od a5 a6 k wr h0 h1 h2 h3 (unhide H4) (by omega) hlt).mono ?_
        rintro e w' ⟨rfl, hb'⟩
        go_wp2
        go_ret
        exact ⟨ret_bool (by rw [anyIx_is (unhide HN) (by omega) (by simpa using hpk)]), box_below (box_next (unhide HB) hb')⟩
      · go_wp2_with fail
        refine (bitPlace_any a0 a1 st ln od a5 a6 k wr h0 h1 h2 h3 (unhide H4) (by omega) hlt).mono ?_
        rintro e w' ⟨rfl, hb'⟩
        go_wp2
        go_roundw
        case rel => exact ⟨k + 1, by omega, by go_num, fun j hj => by
            by_cases e : j = k
            · subst e; simp; omega
            · exact unhide HN j (by omega), box_next (unhide HB) hb'⟩
        case measure => simp [intOf]; omega
    · go_wp2
      go_ret
      exact ⟨ret_bool (by rw [anyIx_none (fun j hj => unhide HN j (by omega))]), box_below (unhide HB)⟩

set_option maxHeartbeats 400000 in
theorem hasName_any (v : Value) (L : List Sg) (c : Int) (w : World) (h : SigsAt w v L) (hl : L.length ≤ 8) :
    Calls Try.prog 108 #[v, .int .u8 c] w fun e w' => e = .returned (.bool (anyIx (fun k => decide ((sgAt L k).nm = c)) L.length)) ∧ w' = w := by
  rcases h.opened with ⟨rfl, a, cc, rfl⟩ | ⟨g, cap, rfl, _, hcap, _, hc⟩
  · go_enter Try.func108, Try.ntmps108
    go_wp2
    refine wp_loop_rounds 1 ?_
    rw [rounds_succ]
    go_wp2
    go_ret
    exact ⟨ret_bool (by simp [anyIx]), rfl⟩
  · have HC := hide hc
    clear hc
    go_enter Try.func108, Try.ntmps108
    go_wp2
    go_loop [5] (fun i => ∃ k : Nat, k ≤ L.length ∧ i = .int .i64 k ∧ ∀ j, j < k → decide ((sgAt L j).nm = c) = false) (fun i => L.length - (intOf i).toNat)
    case atStart => exact ⟨0, by omega, rfl, by intro j hj; omega⟩
    case round =>
      obtain ⟨k, hk, rfl, hno⟩ := hrel
      have HN := hide hno
      clear hno
      by_cases hlt : k < L.length
      · have hc6 : w.cell? ⟨g, k * 7 + 1, none⟩ = some (.int .u8 (sgAt L k).nm) := (unhide HC) k 1 hlt (by omega)
        by_cases hm : (sgAt L k).nm = c
        · have hmb : ((sgAt L k).nm == c) = true := by simp [hm]
          have HM := hide hm
          clear hm
          go_wp2
          go_ret
          exact ⟨ret_bool (by rw [anyIx_is (unhide HN) hlt (by simpa using unhide HM)]), rfl⟩
        · have hmb : ((sgAt L k).nm == c) = false := by simp [hm]
          have HM := hide hm
          clear hm
          go_wp2
          go_round
          case rel => exact ⟨k + 1, by omega, by go_num, fun j hj => by
            by_cases e : j = k
            · subst e; simpa using unhide HM
            · exact unhide HN j (by omega)⟩
          case measure => simp [intOf]; omega
      · go_wp2
        go_ret
        exact ⟨ret_bool (by rw [anyIx_none (fun j hj => unhide HN j (by omega))]), rfl⟩

/-- Can two signals of these roles be active together? -/
def meetB (a b : Int) : Bool := decide (a = b) || !isDigB a || !isDigB b

set_option maxHeartbeats 400000 in
theorem canMeet_any (a0 a1 a2 a3 a4 a5 a b0 b1 b2 b3 b4 b5 b : Int) (w : World) :
    Calls Try.prog 111 #[.agg #[.int .i64 a0, .int .u8 a1, .int .i64 a2, .int .i64 a3, .int .u8 a4, .int .u8 a5, .int .u8 a], .agg #[.int .i64 b0, .int .u8 b1, .int .i64 b2, .int .i64 b3, .int .u8 b4, .int .u8 b5, .int .u8 b]] w
      fun e w' => e = .returned (.bool (meetB a b)) ∧ Below w.heap.size w w' := by
  cases h1 : isDigB a <;> cases h2 : isDigB b <;> by_cases h3 : (a == b) = true
  all_goals
    go_enter Try.func111, Try.ntmps111
    go_wp2_with (go_at_call 95; refine (isDigit_any _ _).mono ?_; rintro e w' ⟨rfl, rfl⟩)
    go_ret
    exact ⟨ret_bool (by simp_all [meetB]), ((Below.refl _ _).alloc (Nat.le_refl _) _).alloc (by simp) _⟩

end Go.Proofs.Ytoihlnjcgopdlab

namespace Go.Proofs.Ytoihlnjcgopdlab
open Go.RowKit

/-- Have two signals a bit in common? -/
def shareB (a b : Sg) : Bool := anyIx (fun i => anyIx (fun j => decide (place a.st a.ln a.od i = place b.st b.ln b.od j)) b.ln.toNat) a.ln.toNat

theorem box2_cell {w wr : World} {o1 o2 : Obj} (hb : Below (w.heap.size + 2) ((w.alloc o1).alloc o2) wr) (j : Nat) :
    wr.cell? ⟨w.heap.size, j, none⟩ = ((w.alloc o1).alloc o2).cell? ⟨w.heap.size, j, none⟩ ∧ wr.cell? ⟨w.heap.size + 1, j, none⟩ = ((w.alloc o1).alloc o2).cell? ⟨w.heap.size + 1, j, none⟩ :=
  ⟨hb.cell (p := ⟨w.heap.size, j, none⟩) (by simp), hb.cell (p := ⟨w.heap.size + 1, j, none⟩) (by simp)⟩
theorem box2_below {w wr : World} {o1 o2 : Obj} (hb : Below (w.heap.size + 2) ((w.alloc o1).alloc o2) wr) : Below w.heap.size w wr :=
  (((Below.refl _ _).alloc (Nat.le_refl _) _).alloc (by simp) _).trans (hb.mono (by omega))
theorem box2_next {w wr w' : World} {o1 o2 : Obj} (hb : Below (w.heap.size + 2) ((w.alloc o1).alloc o2) wr) (h : Below wr.heap.size wr w') : Below (w.heap.size + 2) ((w.alloc o1).alloc o2) w' :=
  hb.trans (h.mono (by have := hb.size; simp at this; omega))

set_option maxHeartbeats 1000000 in
theorem rShares_any (a b : Sg) (w : World) (ha : a.Ok) (hbk : b.Ok) :
    Calls Try.prog 77 #[.agg #[.int .u8 a.nm, .int .i64 a.st, .int .i64 a.ln, .bool (decide (a.od = 62)), .bool (decide (a.kd = 115)), .int .u8 a.rl, .int .i64 a.pl],
      .agg #[.int .u8 b.nm, .int .i64 b.st, .int .i64 b.ln, .bool (decide (b.od = 62)), .bool (decide (b.kd = 115)), .int .u8 b.rl, .int .i64 b.pl]] w
      fun e w' => e = .returned (.bool (shareB a b)) ∧ Below w.heap.size w w' := by
  have HA := hide ha
  have HBK := hide hbk
  have la := ha.ln0
  have lb := hbk.ln0
  have la1 := ha.ln1
  have lb1 := hbk.ln1
  have EA := hide (show decide (a.od = 62) = decide (a.od = 62) from rfl)
  clear ha hbk EA
  obtain ⟨x1, X1⟩ : ∃ x, Hid (x = decide (a.od = 62)) := ⟨_, hide rfl⟩
  obtain ⟨x2, X2⟩ : ∃ x, Hid (x = decide (a.kd = 115)) := ⟨_, hide rfl⟩
  obtain ⟨x3, X3⟩ : ∃ x, Hid (x = decide (b.od = 62)) := ⟨_, hide rfl⟩
  obtain ⟨x4, X4⟩ : ∃ x, Hid (x = decide (b.kd = 115)) := ⟨_, hide rfl⟩
  rw [← unhide X1, ← unhide X2, ← unhide X3, ← unhide X4]
  go_enter Try.func77, Try.ntmps77
  go_wp2
  go_loopw [5, 6, 7, 8] (fun i _ _ _ wr => ∃ k : Nat, (k : Int) ≤ a.ln ∧ i = .int .i64 k ∧ (∀ j, j < k → anyIx (fun j' => decide (place a.st a.ln a.od j = place b.st b.ln b.od j')) b.ln.toNat = false) ∧
    Below (w.heap.size + 2) ((w.alloc (.cells #[.int .u8 a.nm, .int .i64 a.st, .int .i64 a.ln, .bool x1, .bool x2, .int .u8 a.rl, .int .i64 a.pl] 78)).alloc (.cells #[.int .u8 b.nm, .int .i64 b.st, .int .i64 b.ln, .bool x3, .bool x4, .int .u8 b.rl, .int .i64 b.pl] 78)) wr) (fun i _ _ _ _ => (a.ln - intOf i).toNat)
  case atStart => exact ⟨0, by omega, rfl, by intro j hj; omega, Below.refl _ _⟩
  case round =>
    obtain ⟨k, hk, rfl, hno, hb⟩ := hrel
    have HN := hide hno
    have HB := hide hb
    have hc := fun j => (box2_cell hb j).1
    clear hb hno
    obtain ⟨wo, rfl⟩ : ∃ wo : World, wo = wr := ⟨_, rfl⟩
    by_cases hlt : (k : Int) < a.ln
    · go_wp2
      go_loopw [6, 7, 8] (fun i _ _ wr => ∃ m : Nat, (m : Int) ≤ b.ln ∧ i = .int .i64 m ∧ (∀ j, j < m → decide (place a.st a.ln a.od k = place b.st b.ln b.od j) = false) ∧
        Below (w.heap.size + 2) ((w.alloc (.cells #[.int .u8 a.nm, .int .i64 a.st, .int .i64 a.ln, .bool x1, .bool x2, .int .u8 a.rl, .int .i64 a.pl] 78)).alloc (.cells #[.int .u8 b.nm, .int .i64 b.st, .int .i64 b.ln, .bool x3, .bool x4, .int .u8 b.rl, .int .i64 b.pl] 78)) wr) (fun i _ _ _ => (b.ln - intOf i).toNat)
      case atStart => exact ⟨0, by omega, rfl, by intro j hj; omega, unhide HB⟩
      case round =>
        obtain ⟨m, hm, rfl, hno2, hb2⟩ := hrel
        have HN2 := hide hno2
        have HB2 := hide hb2
        clear hc
        have hc := fun j => (box2_cell hb2 j).1
        have hd := fun j => (box2_cell hb2 j).2
        clear hb2 hno2
        by_cases hlt2 : (m : Int) < b.ln
        · go_wp2_with fail
          rw [unhide X1, unhide X2]
          refine (rBit_any a.nm a.st a.ln a.rl a.pl k a.od a.kd _ (unhide HA).st0 (unhide HA).st1 (unhide HA).ln0 (unhide HA).ln1 (unhide HA).od (by omega) hlt).mono ?_
          rintro e w1 ⟨rfl, hb1⟩
          rw [← unhide X1, ← unhide X2]
          have hb1' := box2_next (unhide HB2) hb1
          have HB1 := hide hb1'
          clear hc hd
          have hd := fun j => (box2_cell hb1' j).2
          clear hb1 hb1'
          go_wp2_with fail
          rw [unhide X3, unhide X4]
          refine (rBit_any b.nm b.st b.ln b.rl b.pl m b.od b.kd _ (unhide HBK).st0 (unhide HBK).st1 (unhide HBK).ln0 (unhide HBK).ln1 (unhide HBK).od (by omega) hlt2).mono ?_
          rintro e w2 ⟨rfl, hb2⟩
          rw [← unhide X3, ← unhide X4]
          have hb2' := box2_next (unhide HB1) hb2
          have HB2' := hide hb2'
          clear hd hb2 hb2'
          by_cases heq : place a.st a.ln a.od k = place b.st b.ln b.od m
          · have hq : (place a.st a.ln a.od k == place b.st b.ln b.od m) = true := by simpa using heq
            have HQ := hide heq
            clear heq
            go_wp2
            go_ret
            exact ⟨ret_bool (by rw [shareB, anyIx_is (unhide HN) (by omega) (anyIx_is (unhide HN2) (by omega) (by simpa using unhide HQ))]), box2_below (unhide HB2')⟩
          · have hq : (place a.st a.ln a.od k == place b.st b.ln b.od m) = false := by simpa using heq
            have HQ := hide heq
            clear heq
            go_wp2
            go_roundw
            case rel => exact ⟨m + 1, by omega, by go_num, fun j hj => by
              by_cases e : j = m
              · subst e; simpa using unhide HQ
              · exact unhide HN2 j (by omega), unhide HB2'⟩
            case measure => simp [intOf]; omega
        · go_wp2
          go_roundw
          case rel => exact ⟨k + 1, by omega, by go_num, fun j hj => by
              by_cases e : j = k
              · subst e; exact anyIx_none (fun j' hj' => unhide HN2 j' (by omega))
              · exact unhide HN j (by omega), unhide HB2⟩
          case measure => simp [intOf]; omega
    · go_wp2
      go_ret
      exact ⟨ret_bool (by rw [shareB, anyIx_none (fun j hj => unhide HN j (by omega))]), box2_below (unhide HB)⟩

end Go.Proofs.Ytoihlnjcgopdlab

namespace Go.Proofs.Ytoihlnjcgopdlab
open Go.RowKit

theorem bitv_neg (k : Nat) (hk : k < 64) : bitv (-1) k = 1 := by
  have hd : ∀ k : Fin 64, bitv (-1) k.val = 1 := by decide +kernel
  exact hd ⟨k, hk⟩

theorem layTo_bit (st ln od : Int) (n p : Nat) (hn : n ≤ 64) : (layTo st ln od (-1) n).testBit p = anyIx (fun k => decide ((place st ln od k).toNat = p)) n := by
  induction n with
  | zero => simp [layTo, anyIx]
  | succ n ih =>
    rw [layTo, Nat.testBit_or, ih (by omega), bitv_neg n (by omega), Nat.one_mul, Nat.testBit_two_pow]
    rw [Bool.eq_iff_iff]
    simp only [Bool.or_eq_true, anyIx_true, decide_eq_true_eq]
    constructor
    · rintro (⟨k, hk, h⟩ | h)
      · exact ⟨k, by omega, h⟩
      · exact ⟨n, by omega, h⟩
    · rintro ⟨k, hk, h⟩
      by_cases e : k = n
      · subst e; exact .inr h
      · exact .inl ⟨k, by omega, h⟩

theorem and_ne_zero (x y : Nat) : x &&& y ≠ 0 ↔ ∃ p, x.testBit p = true ∧ y.testBit p = true := by
  constructor
  · intro h
    obtain ⟨p, hp⟩ := Nat.exists_testBit_of_ne_zero h
    rw [Nat.testBit_and] at hp
    exact ⟨p, by simpa using hp⟩
  · rintro ⟨p, h1, h2⟩ h
    have : (x &&& y).testBit p = true := by rw [Nat.testBit_and, h1, h2]; rfl
    rw [h] at this
    simp at this

/-- A signal's bits lie within eight bytes. -/
def Sg.Fits (s : Sg) : Prop := ∀ i : Int, 0 ≤ i → i < s.ln → place s.st s.ln s.od i ≤ 63

theorem share_bits (a b : Sg) (ha : a.Ok) (hb : b.Ok) : (layTo a.st a.ln a.od (-1) a.ln.toNat &&& layTo b.st b.ln b.od (-1) b.ln.toNat ≠ 0) ↔ shareB a b = true := by
  have la := ha.ln1
  have lb := hb.ln1
  rw [and_ne_zero, shareB, anyIx_true]
  constructor
  · rintro ⟨p, h1, h2⟩
    rw [layTo_bit _ _ _ _ _ (by omega), anyIx_true] at h1 h2
    obtain ⟨i, hi, hip⟩ := h1
    obtain ⟨j, hj, hjp⟩ := h2
    refine ⟨i, hi, ?_⟩
    rw [anyIx_true]
    refine ⟨j, hj, ?_⟩
    have p1 := place_lo a.st a.ln a.od i ha.st0 (by omega) (by omega)
    have p2 := place_lo b.st b.ln b.od j hb.st0 (by omega) (by omega)
    simp only [decide_eq_true_eq] at hip hjp ⊢
    omega
  · rintro ⟨i, hi, h⟩
    rw [anyIx_true] at h
    obtain ⟨j, hj, hij⟩ := h
    refine ⟨(place a.st a.ln a.od i).toNat, ?_, ?_⟩
    · rw [layTo_bit _ _ _ _ _ (by omega), anyIx_true]; exact ⟨i, hi, by simp⟩
    · rw [layTo_bit _ _ _ _ _ (by omega), anyIx_true]; exact ⟨j, hj, by simp only [decide_eq_true_eq] at hij ⊢; rw [hij]⟩

theorem share_test (a b : Sg) (ha : a.Ok) (hb : b.Ok) (fa : a.Fits) (fb : b.Fits) :
    (bits BinOp.and IntKind.u64 (layTo b.st b.ln b.od (-1) b.ln.toNat : Int) (layTo a.st a.ln a.od (-1) a.ln.toNat : Int) != 0) = shareB a b := by
  have la := ha.ln0
  have lb := hb.ln0
  have h1 := layTo_lt a.st a.ln a.od (-1) a.ln.toNat (fun i h h' => ⟨place_lo _ _ _ _ ha.st0 h (by omega), fa i h (by omega)⟩)
  have h2 := layTo_lt b.st b.ln b.od (-1) b.ln.toNat (fun i h h' => ⟨place_lo _ _ _ _ hb.st0 h (by omega), fb i h (by omega)⟩)
  rw [u64_and_nat _ _ h2 h1, Nat.and_comm, Bool.eq_iff_iff, ← share_bits a b ha hb, bne_iff_ne]
  omega

/-- The seven cells of an element of a slice of signals. -/
theorem cells7 {w wr : World} {g k : Nat} {L : List Sg} (hc : ∀ k j, k < L.length → j < 7 → w.cell? ⟨g, k * 7 + j, none⟩ = (sgAt L k).cells[j]?) (hg : g < w.heap.size) (hb : Below w.heap.size w wr) (hk : k < L.length) :
    wr.cell? ⟨g, k * 7, none⟩ = some (.int .i64 (sgAt L k).pl) ∧ wr.cell? ⟨g, k * 7 + 1, none⟩ = some (.int .u8 (sgAt L k).nm) ∧ wr.cell? ⟨g, k * 7 + 2, none⟩ = some (.int .i64 (sgAt L k).st) ∧
    wr.cell? ⟨g, k * 7 + 3, none⟩ = some (.int .i64 (sgAt L k).ln) ∧ wr.cell? ⟨g, k * 7 + 4, none⟩ = some (.int .u8 (sgAt L k).od) ∧ wr.cell? ⟨g, k * 7 + 5, none⟩ = some (.int .u8 (sgAt L k).kd) ∧
    wr.cell? ⟨g, k * 7 + 6, none⟩ = some (.int .u8 (sgAt L k).rl) := by
  have h : ∀ j, j < 7 → wr.cell? ⟨g, k * 7 + j, none⟩ = (sgAt L k).cells[j]? := fun j hj => by
    rw [hb.cell (p := ⟨g, k * 7 + j, none⟩) hg]; exact hc k j hk hj
  exact ⟨h 0 (by omega), h 1 (by omega), h 2 (by omega), h 3 (by omega), h 4 (by omega), h 5 (by omega), h 6 (by omega)⟩

set_option maxHeartbeats 1000000 in
theorem sharesWithAny_any (v : Value) (L : List Sg) (s : Sg) (w : World) (h : SigsAt w v L) (hl : L.length ≤ 8) (hok : ∀ k, k < L.length → (sgAt L k).Ok ∧ (sgAt L k).Fits) (hs : s.Ok) (hf : s.Fits) :
    Calls Try.prog 110 #[v, .agg #[.int .i64 s.pl, .int .u8 s.nm, .int .i64 s.st, .int .i64 s.ln, .int .u8 s.od, .int .u8 s.kd, .int .u8 s.rl]] w
      fun e w' => e = .returned (.bool (anyIx (fun k => shareB (sgAt L k) s && meetB (sgAt L k).rl s.rl) L.length)) ∧ Below w.heap.size w w' := by
  have HOK := hide hok
  have HS := hide hs
  have HF := hide hf
  have HH := hide h
  clear hok hs hf h
  rcases (unhide HH).opened with ⟨rfl, a, c, rfl⟩ | ⟨g, cap, rfl, hg, hcap, _, hc⟩
  · go_enter Try.func110, Try.ntmps110
    go_wp2_with fail
    refine (layBits_any s.pl s.nm s.st s.ln s.od s.kd s.rl (-1) _ (unhide HS).st0 (unhide HS).st1 (unhide HS).ln0 (unhide HS).ln1 (unhide HS).od (unhide HF)).mono ?_
    rintro e w1 ⟨rfl, hb1⟩
    go_wp2
    refine wp_loop_rounds 1 ?_
    rw [rounds_succ]
    go_wp2
    go_ret
    exact ⟨ret_bool (by simp [anyIx]), ((Below.refl _ _).alloc (Nat.le_refl _) _).trans (hb1.mono (by simp))⟩
  · have HC := hide hc
    clear hc
    go_enter Try.func110, Try.ntmps110
    go_wp2_with fail
    refine (layBits_any s.pl s.nm s.st s.ln s.od s.kd s.rl (-1) _ (unhide HS).st0 (unhide HS).st1 (unhide HS).ln0 (unhide HS).ln1 (unhide HS).od (unhide HF)).mono ?_
    rintro e w1 ⟨rfl, hb1⟩
    have hb1' : Below (w.heap.size + 1) (w.alloc (.cells #[.int .i64 s.pl, .int .u8 s.nm, .int .i64 s.st, .int .i64 s.ln, .int .u8 s.od, .int .u8 s.kd, .int .u8 s.rl] 117)) w1 := hb1.mono (by simp)
    have HB1 := hide hb1'
    clear hb1 hb1'
    go_wp2
    go_loopw [6, 7] (fun i _ wr => ∃ k : Nat, k ≤ L.length ∧ i = .int .i64 k ∧ (∀ j, j < k → (shareB (sgAt L j) s && meetB (sgAt L j).rl s.rl) = false) ∧
      Below (w.heap.size + 1) (w.alloc (.cells #[.int .i64 s.pl, .int .u8 s.nm, .int .i64 s.st, .int .i64 s.ln, .int .u8 s.od, .int .u8 s.kd, .int .u8 s.rl] 117)) wr) (fun i _ _ => L.length - (intOf i).toNat)
    case atStart => exact ⟨0, by omega, rfl, by intro j hj; omega, unhide HB1⟩
    case round =>
      obtain ⟨k, hk, rfl, hno, hb⟩ := hrel
      have HN := hide hno
      have HB := hide hb
      have hx := box_cell hb
      have hbw := box_below hb
      have HBW := hide hbw
      clear hb hno hbw
      by_cases hlt : k < L.length
      · obtain ⟨c0, c1, c2, c3, c4, c5, c6⟩ := cells7 (unhide HC) hg (unhide HBW) hlt
        have ok := (unhide HOK k hlt).1
        have ft := (unhide HOK k hlt).2
        have OK := hide ok
        have FT := hide ft
        clear ok ft
        go_wp2_with fail
        refine (layBits_any _ _ (sgAt L k).st (sgAt L k).ln (sgAt L k).od _ _ (-1) _ (unhide OK).st0 (unhide OK).st1 (unhide OK).ln0 (unhide OK).ln1 (unhide OK).od (unhide FT)).mono ?_
        rintro e w2 ⟨rfl, hb2⟩
        have hb2' := box_next (unhide HB) hb2
        have HB2 := hide hb2'
        have HBW2 := hide (box_below hb2')
        clear hx c0 c1 c2 c3 c4 c5 c6 hb2 hb2'
        have hx := fun (wx : World) (h : Below (w.heap.size + 1) (w.alloc (.cells #[.int .i64 s.pl, .int .u8 s.nm, .int .i64 s.st, .int .i64 s.ln, .int .u8 s.od, .int .u8 s.kd, .int .u8 s.rl] 117)) wx) => box_cell h
        have c0 := fun (wx : World) (h : Below (w.heap.size + 1) (w.alloc (.cells #[.int .i64 s.pl, .int .u8 s.nm, .int .i64 s.st, .int .i64 s.ln, .int .u8 s.od, .int .u8 s.kd, .int .u8 s.rl] 117)) wx) => cells7 (unhide HC) hg (box_below h) hlt
        have ht := share_test (sgAt L k) s (unhide OK) (unhide HS) (unhide FT) (unhide HF)
        cases hsh : shareB (sgAt L k) s with
        | false =>
          rw [hsh] at ht
          have HSH := hide hsh
          clear hsh
          go_wp2
          refine wp_region_noPanic ?_
          refine wp_region_held_drew (S := fun w' => Below (w.heap.size + 1) (w.alloc (.cells #[.int .i64 s.pl, .int .u8 s.nm, .int .i64 s.st, .int .i64 s.ln, .int .u8 s.od, .int .u8 s.kd, .int .u8 s.rl] 117)) w') (by kernel_rfl) (unhide HB2).drew (fun hHeld => ?_)
          refine wpAnyH_take (i := 0) (v := ?_) (at_list rfl) (by kernel_rfl) (by kernel_rfl) (by kernel_rfl) (fun _ _ _ h => h) (Or.inl ⟨by rfl, ?_⟩) (by assumption) ?_
          rotate_left
          · intro w hSw; (try dsimp only at hSw); first | (go_simp; done) | (go_simp; with_reducible rfl)
          try simp only [Act.put]
          try simp only [List.setIfInBounds_toArray]
          try simp only [List.set_cons_succ]
          try simp only [List.set_cons_zero]
          refine wpAnyH_take (i := 1) (v := ?_) (at_list rfl) (by kernel_rfl) (by kernel_rfl) (by kernel_rfl) (fun _ _ _ h => h) (Or.inl ⟨by rfl, ?_⟩) (by assumption) ?_
          rotate_left
          · intro w hSw; (try dsimp only at hSw); first | (go_simp; done) | (go_simp; with_reducible rfl)
          try simp only [Act.put]
          try simp only [List.setIfInBounds_toArray]
          try simp only [List.set_cons_succ]
          try simp only [List.set_cons_zero]
          refine wpAnyH_take (i := 2) (v := ?_) (at_list rfl) (by kernel_rfl) (by kernel_rfl) (by kernel_rfl) (fun _ _ _ h => h) (Or.inl ⟨by rfl, ?_⟩) (by assumption) ?_
          rotate_left
          · intro w hSw; (try dsimp only at hSw); first | (go_simp; done) | (go_simp; with_reducible rfl)
          try simp only [Act.put]
          try simp only [List.setIfInBounds_toArray]
          try simp only [List.set_cons_succ]
          try simp only [List.set_cons_zero]
          refine wpAnyH_take (i := 3) (v := ?_) (at_list rfl) (by kernel_rfl) (by kernel_rfl) (by kernel_rfl) (fun _ _ _ h => h) (Or.inl ⟨by rfl, ?_⟩) (by assumption) ?_
          rotate_left
          · intro w hSw; (try dsimp only at hSw); first | (go_simp; done) | (go_simp; with_reducible rfl)
          try simp only [Act.put]
          try simp only [List.setIfInBounds_toArray]
          try simp only [List.set_cons_succ]
          try simp only [List.set_cons_zero]
          refine wpAnyH_take (i := 4) (v := ?_) (at_list rfl) (by kernel_rfl) (by kernel_rfl) (by kernel_rfl) (fun _ _ _ h => h) (Or.inl ⟨by rfl, ?_⟩) (by assumption) ?_
          rotate_left
          · intro w hSw; (try dsimp only at hSw); first | (go_simp; done) | (go_simp; with_reducible rfl)
          try simp only [Act.put]
          try simp only [List.setIfInBounds_toArray]
          try simp only [List.set_cons_succ]
          try simp only [List.set_cons_zero]
          refine wpAnyH_take (i := 5) (v := undef) (at_list rfl) (by kernel_rfl) (by kernel_rfl) (by kernel_rfl) (fun _ _ _ h => h) (Or.inr ⟨by rfl, rfl⟩) (by assumption) ?_
          try simp only [Act.put]
          try simp only [List.setIfInBounds_toArray]
          try simp only [List.set_cons_succ]
          try simp only [List.set_cons_zero]
          refine wpAnyH_take (i := 6) (v := undef) (at_list rfl) (by kernel_rfl) (by kernel_rfl) (by kernel_rfl) (fun _ _ _ h => h) (Or.inr ⟨by rfl, rfl⟩) (by assumption) ?_
          try simp only [Act.put]
          try simp only [List.setIfInBounds_toArray]
          try simp only [List.set_cons_succ]
          try simp only [List.set_cons_zero]
          refine wpAnyH_take (i := 7) (v := undef) (at_list rfl) (by kernel_rfl) (by kernel_rfl) (by kernel_rfl) (fun _ _ _ h => h) (Or.inr ⟨by rfl, rfl⟩) (by assumption) ?_
          try simp only [Act.put]
          try simp only [List.setIfInBounds_toArray]
          try simp only [List.set_cons_succ]
          try simp only [List.set_cons_zero]
          refine wpAnyH_take (i := 8) (v := undef) (at_list rfl) (by kernel_rfl) (by kernel_rfl) (by kernel_rfl) (fun _ _ _ h => h) (Or.inr ⟨by rfl, rfl⟩) (by assumption) ?_
          try simp only [Act.put]
          try simp only [List.setIfInBounds_toArray]
          try simp only [List.set_cons_succ]
          try simp only [List.set_cons_zero]
          refine wpAnyH_take (i := 9) (v := undef) (at_list rfl) (by kernel_rfl) (by kernel_rfl) (by kernel_rfl) (fun _ _ _ h => h) (Or.inr ⟨by rfl, rfl⟩) (by assumption) ?_
          try simp only [Act.put]
          try simp only [List.setIfInBounds_toArray]
          try simp only [List.set_cons_succ]
          try simp only [List.set_cons_zero]
          refine wpAnyH_take (i := 10) (v := undef) (at_list rfl) (by kernel_rfl) (by kernel_rfl) (by kernel_rfl) (fun _ _ _ h => h) (Or.inr ⟨by rfl, rfl⟩) (by assumption) ?_
          try simp only [Act.put]
          try simp only [List.setIfInBounds_toArray]
          try simp only [List.set_cons_succ]
          try simp only [List.set_cons_zero]
          refine wpAnyH_take (i := 11) (v := ?_) (at_list rfl) (by kernel_rfl) (by kernel_rfl) (by kernel_rfl) (fun _ _ _ h => h) (Or.inl ⟨by rfl, ?_⟩) (by assumption) ?_
          rotate_left
          · intro w hSw; (try dsimp only at hSw); first | (go_simp; done) | (go_simp; with_reducible rfl)
          try simp only [Act.put]
          try simp only [List.setIfInBounds_toArray]
          try simp only [List.set_cons_succ]
          try simp only [List.set_cons_zero]
          refine wpAnyH_done (by kernel_rfl) ?_ _
          refine NoPanic.normal ?_
          have HH2 := hide hHeld
          clear hHeld
          go_wp2
          go_roundw
          case rel => exact ⟨k + 1, by omega, by go_num, fun j hj => by
              by_cases e : j = k
              · subst e; rw [unhide HSH]; rfl
              · exact unhide HN j (by omega), unhide HH2⟩
          case measure => simp [intOf]; omega
        | true =>
          rw [hsh] at ht
          have HSH := hide hsh
          clear hsh
          cases hm : meetB (sgAt L k).rl s.rl with
          | false =>
            go_wp2
            refine wp_region_noPanic ?_
            refine wp_region_held_drew (S := fun w' => Below (w.heap.size + 1) (w.alloc (.cells #[.int .i64 s.pl, .int .u8 s.nm, .int .i64 s.st, .int .i64 s.ln, .int .u8 s.od, .int .u8 s.kd, .int .u8 s.rl] 117)) w') (by kernel_rfl) (unhide HB2).drew (fun hHeld => ?_)
            refine wpAnyH_take (i := 0) (v := ?_) (at_list rfl) (by kernel_rfl) (by kernel_rfl) (by kernel_rfl) (fun _ _ _ h => h) (Or.inl ⟨by rfl, ?_⟩) (by assumption) ?_
            rotate_left
            · intro w hSw; (try dsimp only at hSw); first | (go_simp; done) | (go_simp; with_reducible rfl)
            try simp only [Act.put]
            try simp only [List.setIfInBounds_toArray]
            try simp only [List.set_cons_succ]
            try simp only [List.set_cons_zero]
            refine wpAnyH_take (i := 1) (v := ?_) (at_list rfl) (by kernel_rfl) (by kernel_rfl) (by kernel_rfl) (fun _ _ _ h => h) (Or.inl ⟨by rfl, ?_⟩) (by assumption) ?_
            rotate_left
            · intro w hSw; (try dsimp only at hSw); first | (go_simp; done) | (go_simp; with_reducible rfl)
            try simp only [Act.put]
            try simp only [List.setIfInBounds_toArray]
            try simp only [List.set_cons_succ]
            try simp only [List.set_cons_zero]
            refine wpAnyH_take (i := 2) (v := ?_) (at_list rfl) (by kernel_rfl) (by kernel_rfl) (by kernel_rfl) (fun _ _ _ h => h) (Or.inl ⟨by rfl, ?_⟩) (by assumption) ?_
            rotate_left
            · intro w hSw; (try dsimp only at hSw); first | (go_simp; done) | (go_simp; with_reducible rfl)
            try simp only [Act.put]
            try simp only [List.setIfInBounds_toArray]
            try simp only [List.set_cons_succ]
            try simp only [List.set_cons_zero]
            refine wpAnyH_take (i := 3) (v := ?_) (at_list rfl) (by kernel_rfl) (by kernel_rfl) (by kernel_rfl) (fun _ _ _ h => h) (Or.inl ⟨by rfl, ?_⟩) (by assumption) ?_
            rotate_left
            · intro w hSw; (try dsimp only at hSw); first | (go_simp; done) | (go_simp; with_reducible rfl)
            try simp only [Act.put]
            try simp only [List.setIfInBounds_toArray]
            try simp only [List.set_cons_succ]
            try simp only [List.set_cons_zero]
            refine wpAnyH_take (i := 4) (v := ?_) (at_list rfl) (by kernel_rfl) (by kernel_rfl) (by kernel_rfl) (fun _ _ _ h => h) (Or.inl ⟨by rfl, ?_⟩) (by assumption) ?_
            rotate_left
            · intro w hSw; (try dsimp only at hSw); first | (go_simp; done) | (go_simp; with_reducible rfl)
            try simp only [Act.put]
            try simp only [List.setIfInBounds_toArray]
            try simp only [List.set_cons_succ]
            try simp only [List.set_cons_zero]
            refine wpAnyH_take (i := 5) (v := ?_) (at_list rfl) (by kernel_rfl) (by kernel_rfl) (by kernel_rfl) (fun _ _ _ h => h) (Or.inl ⟨by rfl, ?_⟩) (by assumption) ?_
            rotate_left
            · intro w hSw; (try dsimp only at hSw); first | (go_simp; done) | (go_simp; with_reducible rfl)
            try simp only [Act.put]
            try simp only [List.setIfInBounds_toArray]
            try simp only [List.set_cons_succ]
            try simp only [List.set_cons_zero]
            refine wpAnyH_take (i := 6) (v := ?_) (at_list rfl) (by kernel_rfl) (by kernel_rfl) (by kernel_rfl) (fun _ _ _ h => h) (Or.inl ⟨by rfl, ?_⟩) (by assumption) ?_
            rotate_left
            · intro w hSw; (try dsimp only at hSw); first | (go_simp; done) | (go_simp; with_reducible rfl)
            try simp only [Act.put]
            try simp only [List.setIfInBounds_toArray]
            try simp only [List.set_cons_succ]
            try simp only [List.set_cons_zero]
            refine wpAnyH_take (i := 7) (v := ?_) (at_list rfl) (by kernel_rfl) (by kernel_rfl) (by kernel_rfl) (fun _ _ _ h => h) (Or.inl ⟨by rfl, ?_⟩) (by assumption) ?_
            rotate_left
            · intro w hSw; (try dsimp only at hSw); first | (go_simp; done) | (go_simp; with_reducible rfl)
            try simp only [Act.put]
            try simp only [List.setIfInBounds_toArray]
            try simp only [List.set_cons_succ]
            try simp only [List.set_cons_zero]
            refine wpAnyH_take (i := 8) (v := ?_) (at_list rfl) (by kernel_rfl) (by kernel_rfl) (by kernel_rfl) (fun _ _ _ h => h) (Or.inl ⟨by rfl, ?_⟩) (by assumption) ?_
            rotate_left
            · intro w hSw; (try dsimp only at hSw); first | (go_simp; done) | (go_simp; with_reducible rfl)
            try simp only [Act.put]
            try simp only [List.setIfInBounds_toArray]
            try simp only [List.set_cons_succ]
            try simp only [List.set_cons_zero]
            refine wpAnyH_take (i := 9) (v := ?_) (at_list rfl) (by kernel_rfl) (by kernel_rfl) (by kernel_rfl) (fun _ _ _ h => h) (Or.inl ⟨by rfl, ?_⟩) (by assumption) ?_
            rotate_left
            · intro w hSw; (try dsimp only at hSw); first | (go_simp; done) | (go_simp; with_reducible rfl)
            try simp only [Act.put]
            try simp only [List.setIfInBounds_toArray]
            try simp only [List.set_cons_succ]
            try simp only [List.set_cons_zero]
            refine wpAnyH_ready (rs := [10]) (by kernel_rfl) (by simp) ?_
            refine AllReadyH.cons (at_list rfl) (fun K hK => ?_) AllReadyH.nil
            go_simp
            refine (canMeet_any _ _ _ _ _ _ (sgAt L k).rl _ _ _ _ _ _ s.rl _).mono ?_; rintro e w3 ⟨rfl, hb3⟩; dsimp only
            refine hK.out _ _ (box_next hHeld hb3) (fun hHeld => ?_)
            clear hK K
            try simp only [Act.put]
            try simp only [List.setIfInBounds_toArray]
            try simp only [List.set_cons_succ]
            try simp only [List.set_cons_zero]
            refine wpAnyH_take (i := 11) (v := ?_) (at_list rfl) (by kernel_rfl) (by kernel_rfl) (by kernel_rfl) (fun _ _ _ h => h) (Or.inl ⟨by rfl, ?_⟩) (by assumption) ?_
            rotate_left
            · intro w hSw; (try dsimp only at hSw); first | (go_simp; done) | (go_simp; with_reducible rfl)
            try simp only [Act.put]
            try simp only [List.setIfInBounds_toArray]
            try simp only [List.set_cons_succ]
            try simp only [List.set_cons_zero]
            refine wpAnyH_done (by kernel_rfl) ?_ _
            refine NoPanic.normal ?_
            have HB3 := hide hHeld
            clear hHeld hb3
            go_wp2
            go_roundw
            case rel => exact ⟨k + 1, by omega, by go_num, fun j hj => by
                by_cases e : j = k
                · subst e; rw [hm]; simp
                · exact unhide HN j (by omega), unhide HB3⟩
            case measure => simp [intOf]; omega
          | true =>
            go_wp2
            refine wp_region_noPanic ?_
            refine wp_region_held_drew (S := fun w' => Below (w.heap.size + 1) (w.alloc (.cells #[.int .i64 s.pl, .int .u8 s.nm, .int .i64 s.st, .int .i64 s.ln, .int .u8 s.od, .int .u8 s.kd, .int .u8 s.rl] 117)) w') (by kernel_rfl) (unhide HB2).drew (fun hHeld => ?_)
            refine wpAnyH_take (i := 0) (v := ?_) (at_list rfl) (by kernel_rfl) (by kernel_rfl) (by kernel_rfl) (fun _ _ _ h => h) (Or.inl ⟨by rfl, ?_⟩) (by assumption) ?_
            rotate_left
            · intro w hSw; (try dsimp only at hSw); first | (go_simp; done) | (go_simp; with_reducible rfl)
            try simp only [Act.put]
            try simp only [List.setIfInBounds_toArray]
            try simp only [List.set_cons_succ]
            try simp only [List.set_cons_zero]
            refine wpAnyH_take (i := 1) (v := ?_) (at_list rfl) (by kernel_rfl) (by kernel_rfl) (by kernel_rfl) (fun _ _ _ h => h) (Or.inl ⟨by rfl, ?_⟩) (by assumption) ?_
            rotate_left
            · intro w hSw; (try dsimp only at hSw); first | (go_simp; done) | (go_simp; with_reducible rfl)
            try simp only [Act.put]
            try simp only [List.setIfInBounds_toArray]
            try simp only [List.set_cons_succ]
            try simp only [List.set_cons_zero]
            refine wpAnyH_take (i := 2) (v := ?_) (at_list rfl) (by kernel_rfl) (by kernel_rfl) (by kernel_rfl) (fun _ _ _ h => h) (Or.inl ⟨by rfl, ?_⟩) (by assumption) ?_
            rotate_left
            · intro w hSw; (try dsimp only at hSw); first | (go_simp; done) | (go_simp; with_reducible rfl)
            try simp only [Act.put]
            try simp only [List.setIfInBounds_toArray]
            try simp only [List.set_cons_succ]
            try simp only [List.set_cons_zero]
            refine wpAnyH_take (i := 3) (v := ?_) (at_list rfl) (by kernel_rfl) (by kernel_rfl) (by kernel_rfl) (fun _ _ _ h => h) (Or.inl ⟨by rfl, ?_⟩) (by assumption) ?_
            rotate_left
            · intro w hSw; (try dsimp only at hSw); first | (go_simp; done) | (go_simp; with_reducible rfl)
            try simp only [Act.put]
            try simp only [List.setIfInBounds_toArray]
            try simp only [List.set_cons_succ]
            try simp only [List.set_cons_zero]
            refine wpAnyH_take (i := 4) (v := ?_) (at_list rfl) (by kernel_rfl) (by kernel_rfl) (by kernel_rfl) (fun _ _ _ h => h) (Or.inl ⟨by rfl, ?_⟩) (by assumption) ?_
            rotate_left
            · intro w hSw; (try dsimp only at hSw); first | (go_simp; done) | (go_simp; with_reducible rfl)
            try simp only [Act.put]
            try simp only [List.setIfInBounds_toArray]
            try simp only [List.set_cons_succ]
            try simp only [List.set_cons_zero]
            refine wpAnyH_take (i := 5) (v := ?_) (at_list rfl) (by kernel_rfl) (by kernel_rfl) (by kernel_rfl) (fun _ _ _ h => h) (Or.inl ⟨by rfl, ?_⟩) (by assumption) ?_
            rotate_left
            · intro w hSw; (try dsimp only at hSw); first | (go_simp; done) | (go_simp; with_reducible rfl)
            try simp only [Act.put]
            try simp only [List.setIfInBounds_toArray]
            try simp only [List.set_cons_succ]
            try simp only [List.set_cons_zero]
            refine wpAnyH_take (i := 6) (v := ?_) (at_list rfl) (by kernel_rfl) (by kernel_rfl) (by kernel_rfl) (fun _ _ _ h => h) (Or.inl ⟨by rfl, ?_⟩) (by assumption) ?_
            rotate_left
            · intro w hSw; (try dsimp only at hSw); first | (go_simp; done) | (go_simp; with_reducible rfl)
            try simp only [Act.put]
            try simp only [List.setIfInBounds_toArray]
            try simp only [List.set_cons_succ]
            try simp only [List.set_cons_zero]
            refine wpAnyH_take (i := 7) (v := ?_) (at_list rfl) (by kernel_rfl) (by kernel_rfl) (by kernel_rfl) (fun _ _ _ h => h) (Or.inl ⟨by rfl, ?_⟩) (by assumption) ?_
            rotate_left
            · intro w hSw; (try dsimp only at hSw); first | (go_simp; done) | (go_simp; with_reducible rfl)
            try simp only [Act.put]
            try simp only [List.setIfInBounds_toArray]
            try simp only [List.set_cons_succ]
            try simp only [List.set_cons_zero]
            refine wpAnyH_take (i := 8) (v := ?_) (at_list rfl) (by kernel_rfl) (by kernel_rfl) (by kernel_rfl) (fun _ _ _ h => h) (Or.inl ⟨by rfl, ?_⟩) (by assumption) ?_
            rotate_left
            · intro w hSw; (try dsimp only at hSw); first | (go_simp; done) | (go_simp; with_reducible rfl)
            try simp only [Act.put]
            try simp only [List.setIfInBounds_toArray]
            try simp only [List.set_cons_succ]
            try simp only [List.set_cons_zero]
            refine wpAnyH_take (i := 9) (v := ?_) (at_list rfl) (by kernel_rfl) (by kernel_rfl) (by kernel_rfl) (fun _ _ _ h => h) (Or.inl ⟨by rfl, ?_⟩) (by assumption) ?_
            rotate_left
            · intro w hSw; (try dsimp only at hSw); first | (go_simp; done) | (go_simp; with_reducible rfl)
            try simp only [Act.put]
            try simp only [List.setIfInBounds_toArray]
            try simp only [List.set_cons_succ]
            try simp only [List.set_cons_zero]
            refine wpAnyH_ready (rs := [10]) (by kernel_rfl) (by simp) ?_
            refine AllReadyH.cons (at_list rfl) (fun K hK => ?_) AllReadyH.nil
            go_simp
            refine (canMeet_any _ _ _ _ _ _ (sgAt L k).rl _ _ _ _ _ _ s.rl _).mono ?_; rintro e w3 ⟨rfl, hb3⟩; dsimp only
            refine hK.out _ _ (box_next hHeld hb3) (fun hHeld => ?_)
            clear hK K
            try simp only [Act.put]
            try simp only [List.setIfInBounds_toArray]
            try simp only [List.set_cons_succ]
            try simp only [List.set_cons_zero]
            refine wpAnyH_take (i := 11) (v := ?_) (at_list rfl) (by kernel_rfl) (by kernel_rfl) (by kernel_rfl) (fun _ _ _ h => h) (Or.inl ⟨by rfl, ?_⟩) (by assumption) ?_
            rotate_left
            · intro w hSw; (try dsimp only at hSw); first | (go_simp; done) | (go_simp; with_reducible rfl)
            try simp only [Act.put]
            try simp only [List.setIfInBounds_toArray]
            try simp only [List.set_cons_succ]
            try simp only [List.set_cons_zero]
            refine wpAnyH_done (by kernel_rfl) ?_ _
            refine NoPanic.normal ?_
            have HB3 := hide hHeld
            clear hHeld hb3
            go_wp2
            go_ret
            exact ⟨ret_bool (by rw [anyIx_is (unhide HN) hlt (by rw [hm, unhide HSH]; rfl)]), box_below (unhide HB3)⟩
      · go_wp2
        go_ret
        exact ⟨ret_bool (by rw [anyIx_none (fun j hj => unhide HN j (by omega))]), unhide HBW⟩

end Go.Proofs.Ytoihlnjcgopdlab

namespace Go.Proofs.Ytoihlnjcgopdlab
open Go.RowKit

/-- What is wrong with a signal, E the signals ahead of it, L all signals of the message: an error's number. -/
def errOf (L E : List Sg) (s : Sg) (sz : Int) : Int :=
  if anyIx (fun k => decide ((sgAt E k).nm = s.nm)) E.length then 3
  else if s.rl = 77 ∧ 0 ≤ muxOf E then 4
  else if isDigB s.rl = true ∧ muxOf L < 0 then 4
  else if anyIx (fun k => decide (8 * sz ≤ place s.st s.ln s.od k)) s.ln.toNat then 5
  else if anyIx (fun k => shareB (sgAt E k) s && meetB (sgAt E k).rl s.rl) E.length then 6
  else 0

theorem not_reaches {s : Sg} {sz : Int} (h8 : sz ≤ 8) (h : anyIx (fun k => decide (8 * sz ≤ place s.st s.ln s.od k)) s.ln.toNat = false) : s.Fits := by
  intro i h0 h1
  have hh : ∀ k, k < s.ln.toNat → decide (8 * sz ≤ place s.st s.ln s.od k) = false := by
    intro k hk
    cases e : decide (8 * sz ≤ place s.st s.ln s.od k) with
    | false => rfl
    | true => rw [anyIx_true.2 ⟨k, hk, e⟩] at h; cases h
  have := hh i.toNat (by omega)
  simp only [decide_eq_false_iff_not] at this
  rw [Int.toNat_of_nonneg h0] at this
  omega

/-- Two boxes: what was below stays. -/
theorem sigs_box2 {w wr : World} {o1 o2 : Obj} {v : Value} {L : List Sg} (h : SigsAt w v L) (hb : Below (w.heap.size + 2) ((w.alloc o1).alloc o2) wr) : SigsAt wr v L := ownsRow_below h (box2_below hb)

set_option maxHeartbeats 2000000 in
theorem checkSignal_any (pl id sz : Int) (mv ev : Value) (L E : List Sg) (s : Sg) (w : World) (hL : SigsAt w mv L) (hE : SigsAt w ev E) (hl : L.length ≤ 8) (he : E.length ≤ 8) (hs : s.Ok)
    (hok : ∀ k, k < E.length → (sgAt E k).Ok ∧ (sgAt E k).Fits) (hz0 : 0 ≤ sz) (hz : sz ≤ 8) :
    Calls Try.prog 106 #[.agg #[.int .i64 pl, .int .i64 id, .int .i64 sz, mv], ev, .agg #[.int .i64 s.pl, .int .u8 s.nm, .int .i64 s.st, .int .i64 s.ln, .int .u8 s.od, .int .u8 s.kd, .int .u8 s.rl]] w
      fun e w' => e = .returned (.int .i64 (errOf L E s sz)) ∧ Below w.heap.size w w' := by
  have HL := hide hL
  have HE := hide hE
  have HS := hide hs
  have HOK := hide hok
  clear hL hE hs hok
  have HB : Hid (Below (w.heap.size + 2) ((w.alloc (.cells #[.int .i64 pl, .int .i64 id, .int .i64 sz, mv] 82)).alloc (.cells #[.int .i64 s.pl, .int .u8 s.nm, .int .i64 s.st, .int .i64 s.ln, .int .u8 s.od, .int .u8 s.kd, .int .u8 s.rl] 117)) ((w.alloc (.cells #[.int .i64 pl, .int .i64 id, .int .i64 sz, mv] 82)).alloc (.cells #[.int .i64 s.pl, .int .u8 s.nm, .int .i64 s.st, .int .i64 s.ln, .int .u8 s.od, .int .u8 s.kd, .int .u8 s.rl] 117))) := hide (Below.refl _ _)
  cases q1 : anyIx (fun k => decide ((sgAt E k).nm = s.nm)) E.length with
  | true =>
    have Q := hide (show errOf L E s sz = 3 by rw [errOf, if_pos q1])
    go_enter Try.func106, Try.ntmps106
    go_wp2_with fail
    refine (hasName_any ev E s.nm _ (sigs_box2 (unhide HE) (unhide HB)) he).mono ?_
    rintro e w1 ⟨rfl, rfl⟩
    go_wp2
    go_ret
    exact ⟨ret_int (by rw [unhide Q]), box2_below (unhide HB)⟩
  | false =>
    have Q1 := hide q1
    by_cases q2 : s.rl = 77 ∧ 0 ≤ muxOf E
    · have Q := hide (show errOf L E s sz = 4 by rw [errOf, if_neg (by rw [q1]; simp), if_pos q2])
      have q2a : (s.rl == 77) = true := by rw [q2.1]; rfl
      have q2b := q2.2
      clear q2
      go_enter Try.func106, Try.ntmps106
      go_wp2_with fail
      refine (hasName_any ev E s.nm _ (sigs_box2 (unhide HE) (unhide HB)) he).mono ?_
      rintro e w1 ⟨rfl, rfl⟩
      go_wp2_with fail
      refine (multiplexor_any ev E _ (sigs_box2 (unhide HE) (unhide HB)) he).mono ?_
      rintro e w1 ⟨rfl, rfl⟩
      go_wp2
      go_ret
      exact ⟨ret_int (by rw [unhide Q]), box2_below (unhide HB)⟩
    · have Q2 := hide q2
      clear q2
      by_cases q3 : s.rl = 77
      · have q3a : (s.rl == 77) = true := by rw [q3]; rfl
        have q3b : muxOf E < 0 := by have := unhide Q2; omega
        have q3c : isDigB s.rl = false := by rw [q3]; rfl
        have Q3 := hide q3
        clear q3
        cases q4 : anyIx (fun k => decide (8 * sz ≤ place s.st s.ln s.od k)) s.ln.toNat with
        | true =>
          have Q := hide (show errOf L E s sz = 5 by rw [errOf, if_neg (by rw [unhide Q1]; simp), if_neg (unhide Q2), if_neg (by rw [q3c]; simp), if_pos q4])
          go_enter Try.func106, Try.ntmps106
          go_wp2_with fail
          refine (hasName_any ev E s.nm _ (sigs_box2 (unhide HE) (unhide HB)) he).mono ?_
          rintro e w1 ⟨rfl, rfl⟩
          go_wp2_with fail
          refine (multiplexor_any ev E _ (sigs_box2 (unhide HE) (unhide HB)) he).mono ?_
          rintro e w1 ⟨rfl, rfl⟩
          go_wp2_with fail
          refine (multiplexor_any mv L _ (sigs_box2 (unhide HL) (unhide HB)) hl).mono ?_
          rintro e w1 ⟨rfl, rfl⟩
          go_wp2_with fail
          refine (isDigit_any _ _).mono ?_
          rintro e w1 ⟨rfl, rfl⟩
          go_wp2_with fail
          refine (reaches_any s.pl s.nm s.st s.ln s.od s.kd s.rl _ _ (unhide HS).st0 (unhide HS).st1 (unhide HS).ln0 (unhide HS).ln1 (unhide HS).od).mono ?_
          rintro e w1 ⟨rfl, hb1⟩
          have HB1 := hide (box2_next (unhide HB) hb1)
          have hd := fun j => (box2_cell (unhide HB1) j).2
          clear hb1
          go_wp2
          go_ret
          exact ⟨ret_int (by rw [unhide Q]), box2_below (unhide HB1)⟩
        | false =>
          have HF := hide (not_reaches hz q4)
          cases q5 : anyIx (fun k => shareB (sgAt E k) s && meetB (sgAt E k).rl s.rl) E.length with
          | true =>
            have Q := hide (show errOf L E s sz = 6 by rw [errOf, if_neg (by rw [unhide Q1]; simp), if_neg (unhide Q2), if_neg (by rw [q3c]; simp), if_neg (by rw [q4]; simp), if_pos q5])
            go_enter Try.func106, Try.ntmps106
            go_wp2_with fail
            refine (hasName_any ev E s.nm _ (sigs_box2 (unhide HE) (unhide HB)) he).mono ?_
            rintro e w1 ⟨rfl, rfl⟩
            go_wp2_with fail
            refine (multiplexor_any ev E _ (sigs_box2 (unhide HE) (unhide HB)) he).mono ?_
            rintro e w1 ⟨rfl, rfl⟩
            go_wp2_with fail
            refine (multiplexor_any mv L _ (sigs_box2 (unhide HL) (unhide HB)) hl).mono ?_
            rintro e w1 ⟨rfl, rfl⟩
            go_wp2_with fail
            refine (isDigit_any _ _).mono ?_
            rintro e w1 ⟨rfl, rfl⟩
            go_wp2_with fail
            refine (reaches_any s.pl s.nm s.st s.ln s.od s.kd s.rl _ _ (unhide HS).st0 (unhide HS).st1 (unhide HS).ln0 (unhide HS).ln1 (unhide HS).od).mono ?_
            rintro e w1 ⟨rfl, hb1⟩
            have HB1 := hide (box2_next (unhide HB) hb1)
            have hd := fun j => (box2_cell (unhide HB1) j).2
            clear hb1
            go_wp2_with fail
            refine (sharesWithAny_any ev E s _ (sigs_box2 (unhide HE) (unhide HB1)) he (unhide HOK) (unhide HS) (unhide HF)).mono ?_
            rintro e w2 ⟨rfl, hb2⟩
            have HB2 := hide (box2_next (unhide HB1) hb2)
            clear hb2
            go_wp2
            go_ret
            exact ⟨ret_int (by rw [unhide Q]), box2_below (unhide HB2)⟩
          | false =>
            have Q := hide (show errOf L E s sz = 0 by rw [errOf, if_neg (by rw [unhide Q1]; simp), if_neg (unhide Q2), if_neg (by rw [q3c]; simp), if_neg (by rw [q4]; simp), if_neg (by rw [q5]; simp)])
            go_enter Try.func106, Try.ntmps106
            go_wp2_with fail
            refine (hasName_any ev E s.nm _ (sigs_box2 (unhide HE) (unhide HB)) he).mono ?_
            rintro e w1 ⟨rfl, rfl⟩
            go_wp2_with fail
            refine (multiplexor_any ev E _ (sigs_box2 (unhide HE) (unhide HB)) he).mono ?_
            rintro e w1 ⟨rfl, rfl⟩
            go_wp2_with fail
            refine (multiplexor_any mv L _ (sigs_box2 (unhide HL) (unhide HB)) hl).mono ?_
            rintro e w1 ⟨rfl, rfl⟩
            go_wp2_with fail
            refine (isDigit_any _ _).mono ?_
            rintro e w1 ⟨rfl, rfl⟩
            go_wp2_with fail
            refine (reaches_any s.pl s.nm s.st s.ln s.od s.kd s.rl _ _ (unhide HS).st0 (unhide HS).st1 (unhide HS).ln0 (unhide HS).ln1 (unhide HS).od).mono ?_
            rintro e w1 ⟨rfl, hb1⟩
            have HB1 := hide (box2_next (unhide HB) hb1)
            have hd := fun j => (box2_cell (unhide HB1) j).2
            clear hb1
            go_wp2_with fail
            refine (sharesWithAny_any ev E s _ (sigs_box2 (unhide HE) (unhide HB1)) he (unhide HOK) (unhide HS) (unhide HF)).mono ?_
            rintro e w2 ⟨rfl, hb2⟩
            have HB2 := hide (box2_next (unhide HB1) hb2)
            clear hb2
            go_wp2
            go_ret
            exact ⟨ret_int (by rw [unhide Q]), box2_below (unhide HB2)⟩
      · have q3a : (s.rl == 77) = false := by simpa using q3
        have Q3 := hide q3
        clear q3
        cases q3c : isDigB s.rl with
        | true =>
          by_cases q6 : muxOf L < 0
          · have Q := hide (show errOf L E s sz = 4 by rw [errOf, if_neg (by rw [unhide Q1]; simp), if_neg (unhide Q2), if_pos ⟨q3c, q6⟩])
            go_enter Try.func106, Try.ntmps106
            go_wp2_with fail
            refine (hasName_any ev E s.nm _ (sigs_box2 (unhide HE) (unhide HB)) he).mono ?_
            rintro e w1 ⟨rfl, rfl⟩
            go_wp2_with fail
            refine (multiplexor_any mv L _ (sigs_box2 (unhide HL) (unhide HB)) hl).mono ?_
            rintro e w1 ⟨rfl, rfl⟩
            go_wp2_with fail
            refine (isDigit_any _ _).mono ?_
            rintro e w1 ⟨rfl, rfl⟩
            go_wp2
            go_ret
            exact ⟨ret_int (by rw [unhide Q]), box2_below (unhide HB)⟩
          · have q6' : 0 ≤ muxOf L := by omega
            cases q4 : anyIx (fun k => decide (8 * sz ≤ place s.st s.ln s.od k)) s.ln.toNat with
            | true =>
              have Q := hide (show errOf L E s sz = 5 by rw [errOf, if_neg (by rw [unhide Q1]; simp), if_neg (unhide Q2), if_neg (fun h => q6 h.2), if_pos q4])
              go_enter Try.func106, Try.ntmps106
              go_wp2_with fail
              refine (hasName_any ev E s.nm _ (sigs_box2 (unhide HE) (unhide HB)) he).mono ?_
              rintro e w1 ⟨rfl, rfl⟩
              go_wp2_with fail
              refine (multiplexor_any mv L _ (sigs_box2 (unhide HL) (unhide HB)) hl).mono ?_
              rintro e w1 ⟨rfl, rfl⟩
              go_wp2_with fail
              refine (isDigit_any _ _).mono ?_
              rintro e w1 ⟨rfl, rfl⟩
              go_wp2_with fail
              refine (reaches_any s.pl s.nm s.st s.ln s.od s.kd s.rl _ _ (unhide HS).st0 (unhide HS).st1 (unhide HS).ln0 (unhide HS).ln1 (unhide HS).od).mono ?_
              rintro e w1 ⟨rfl, hb1⟩
              have HB1 := hide (box2_next (unhide HB) hb1)
              have hd := fun j => (box2_cell (unhide HB1) j).2
              clear hb1
              go_wp2
              go_ret
              exact ⟨ret_int (by rw [unhide Q]), box2_below (unhide HB1)⟩
            | false =>
              have HF := hide (not_reaches hz q4)
              cases q5 : anyIx (fun k => shareB (sgAt E k) s && meetB (sgAt E k).rl s.rl) E.length with
              | true =>
                have Q := hide (show errOf L E s sz = 6 by rw [errOf, if_neg (by rw [unhide Q1]; simp), if_neg (unhide Q2), if_neg (fun h => q6 h.2), if_neg (by rw [q4]; simp), if_pos q5])
                go_enter Try.func106, Try.ntmps106
                go_wp2_with fail
                refine (hasName_any ev E s.nm _ (sigs_box2 (unhide HE) (unhide HB)) he).mono ?_
                rintro e w1 ⟨rfl, rfl⟩
                go_wp2_with fail
                refine (multiplexor_any mv L _ (sigs_box2 (unhide HL) (unhide HB)) hl).mono ?_
                rintro e w1 ⟨rfl, rfl⟩
                go_wp2_with fail
                refine (isDigit_any _ _).mono ?_
                rintro e w1 ⟨rfl, rfl⟩
                go_wp2_with fail
                refine (reaches_any s.pl s.nm s.st s.ln s.od s.kd s.rl _ _ (unhide HS).st0 (unhide HS).st1 (unhide HS).ln0 (unhide HS).ln1 (unhide HS).od).mono ?_
                rintro e w1 ⟨rfl, hb1⟩
                have HB1 := hide (box2_next (unhide HB) hb1)
                have hd := fun j => (box2_cell (unhide HB1) j).2
                clear hb1
                go_wp2_with fail
                refine (sharesWithAny_any ev E s _ (sigs_box2 (unhide HE) (unhide HB1)) he (unhide HOK) (unhide HS) (unhide HF)).mono ?_
                rintro e w2 ⟨rfl, hb2⟩
                have HB2 := hide (box2_next (unhide HB1) hb2)
                clear hb2
                go_wp2
                go_ret
                exact ⟨ret_int (by rw [unhide Q]), box2_below (unhide HB2)⟩
              | false =>
                have Q := hide (show errOf L E s sz = 0 by rw [errOf, if_neg (by rw [unhide Q1]; simp), if_neg (unhide Q2), if_neg (fun h => q6 h.2), if_neg (by rw [q4]; simp), if_neg (by rw [q5]; simp)])
                go_enter Try.func106, Try.ntmps106
                go_wp2_with fail
                refine (hasName_any ev E s.nm _ (sigs_box2 (unhide HE) (unhide HB)) he).mono ?_
                rintro e w1 ⟨rfl, rfl⟩
                go_wp2_with fail
                refine (multiplexor_any mv L _ (sigs_box2 (unhide HL) (unhide HB)) hl).mono ?_
                rintro e w1 ⟨rfl, rfl⟩
                go_wp2_with fail
                refine (isDigit_any _ _).mono ?_
                rintro e w1 ⟨rfl, rfl⟩
                go_wp2_with fail
                refine (reaches_any s.pl s.nm s.st s.ln s.od s.kd s.rl _ _ (unhide HS).st0 (unhide HS).st1 (unhide HS).ln0 (unhide HS).ln1 (unhide HS).od).mono ?_
                rintro e w1 ⟨rfl, hb1⟩
                have HB1 := hide (box2_next (unhide HB) hb1)
                have hd := fun j => (box2_cell (unhide HB1) j).2
                clear hb1
                go_wp2_with fail
                refine (sharesWithAny_any ev E s _ (sigs_box2 (unhide HE) (unhide HB1)) he (unhide HOK) (unhide HS) (unhide HF)).mono ?_
                rintro e w2 ⟨rfl, hb2⟩
                have HB2 := hide (box2_next (unhide HB1) hb2)
                clear hb2
                go_wp2
                go_ret
                exact ⟨ret_int (by rw [unhide Q]), box2_below (unhide HB2)⟩
        | false =>
          cases q4 : anyIx (fun k => decide (8 * sz ≤ place s.st s.ln s.od k)) s.ln.toNat with
          | true =>
            have Q := hide (show errOf L E s sz = 5 by rw [errOf, if_neg (by rw [unhide Q1]; simp), if_neg (unhide Q2), if_neg (by rw [q3c]; simp), if_pos q4])
            go_enter Try.func106, Try.ntmps106
            go_wp2_with fail
            refine (hasName_any ev E s.nm _ (sigs_box2 (unhide HE) (unhide HB)) he).mono ?_
            rintro e w1 ⟨rfl, rfl⟩
            go_wp2_with fail
            refine (multiplexor_any mv L _ (sigs_box2 (unhide HL) (unhide HB)) hl).mono ?_
            rintro e w1 ⟨rfl, rfl⟩
            go_wp2_with fail
            refine (isDigit_any _ _).mono ?_
            rintro e w1 ⟨rfl, rfl⟩
            go_wp2_with fail
            refine (reaches_any s.pl s.nm s.st s.ln s.od s.kd s.rl _ _ (unhide HS).st0 (unhide HS).st1 (unhide HS).ln0 (unhide HS).ln1 (unhide HS).od).mono ?_
            rintro e w1 ⟨rfl, hb1⟩
            have HB1 := hide (box2_next (unhide HB) hb1)
            have hd := fun j => (box2_cell (unhide HB1) j).2
            clear hb1
            go_wp2
            go_ret
            exact ⟨ret_int (by rw [unhide Q]), box2_below (unhide HB1)⟩
          | false =>
            have HF := hide (not_reaches hz q4)
            cases q5 : anyIx (fun k => shareB (sgAt E k) s && meetB (sgAt E k).rl s.rl) E.length with
            | true =>
              have Q := hide (show errOf L E s sz = 6 by rw [errOf, if_neg (by rw [unhide Q1]; simp), if_neg (unhide Q2), if_neg (by rw [q3c]; simp), if_neg (by rw [q4]; simp), if_pos q5])
              go_enter Try.func106, Try.ntmps106
              go_wp2_with fail
              refine (hasName_any ev E s.nm _ (sigs_box2 (unhide HE) (unhide HB)) he).mono ?_
              rintro e w1 ⟨rfl, rfl⟩
              go_wp2_with fail
              refine (multiplexor_any mv L _ (sigs_box2 (unhide HL) (unhide HB)) hl).mono ?_
              rintro e w1 ⟨rfl, rfl⟩
              go_wp2_with fail
              refine (isDigit_any _ _).mono ?_
              rintro e w1 ⟨rfl, rfl⟩
              go_wp2_with fail
              refine (reaches_any s.pl s.nm s.st s.ln s.od s.kd s.rl _ _ (unhide HS).st0 (unhide HS).st1 (unhide HS).ln0 (unhide HS).ln1 (unhide HS).od).mono ?_
              rintro e w1 ⟨rfl, hb1⟩
              have HB1 := hide (box2_next (unhide HB) hb1)
              have hd := fun j => (box2_cell (unhide HB1) j).2
              clear hb1
              go_wp2_with fail
              refine (sharesWithAny_any ev E s _ (sigs_box2 (unhide HE) (unhide HB1)) he (unhide HOK) (unhide HS) (unhide HF)).mono ?_
              rintro e w2 ⟨rfl, hb2⟩
              have HB2 := hide (box2_next (unhide HB1) hb2)
              clear hb2
              go_wp2
              go_ret
              exact ⟨ret_int (by rw [unhide Q]), box2_below (unhide HB2)⟩
            | false =>
              have Q := hide (show errOf L E s sz = 0 by rw [errOf, if_neg (by rw [unhide Q1]; simp), if_neg (unhide Q2), if_neg (by rw [q3c]; simp), if_neg (by rw [q4]; simp), if_neg (by rw [q5]; simp)])
              go_enter Try.func106, Try.ntmps106
              go_wp2_with fail
              refine (hasName_any ev E s.nm _ (sigs_box2 (unhide HE) (unhide HB)) he).mono ?_
              rintro e w1 ⟨rfl, rfl⟩
              go_wp2_with fail
              refine (multiplexor_any mv L _ (sigs_box2 (unhide HL) (unhide HB)) hl).mono ?_
              rintro e w1 ⟨rfl, rfl⟩
              go_wp2_with fail
              refine (isDigit_any _ _).mono ?_
              rintro e w1 ⟨rfl, rfl⟩
              go_wp2_with fail
              refine (reaches_any s.pl s.nm s.st s.ln s.od s.kd s.rl _ _ (unhide HS).st0 (unhide HS).st1 (unhide HS).ln0 (unhide HS).ln1 (unhide HS).od).mono ?_
              rintro e w1 ⟨rfl, hb1⟩
              have HB1 := hide (box2_next (unhide HB) hb1)
              have hd := fun j => (box2_cell (unhide HB1) j).2
              clear hb1
              go_wp2_with fail
              refine (sharesWithAny_any ev E s _ (sigs_box2 (unhide HE) (unhide HB1)) he (unhide HOK) (unhide HS) (unhide HF)).mono ?_
              rintro e w2 ⟨rfl, hb2⟩
              have HB2 := hide (box2_next (unhide HB1) hb2)
              clear hb2
              go_wp2
              go_ret
              exact ⟨ret_int (by rw [unhide Q]), box2_below (unhide HB2)⟩

end Go.Proofs.Ytoihlnjcgopdlab

namespace Go.Proofs.Ytoihlnjcgopdlab
open Go.RowKit

/-- What is wrong with signal i of a message. -/
def errAt (L : List Sg) (sz : Int) (i : Nat) : Int := errOf L (L.take i) (sgAt L i) sz
def errIx (L : List Sg) (sz : Int) : Nat := firstIx (fun i => decide (errAt L sz i ≠ 0)) L.length
def errSigsE (L : List Sg) (sz : Int) : Int := if errIx L sz < L.length then errAt L sz (errIx L sz) else 0
def errSigsP (L : List Sg) (sz : Int) : Int := if errIx L sz < L.length then (sgAt L (errIx L sz)).pl else 0

theorem errOf_fits {L E : List Sg} {s : Sg} {sz : Int} (hz : sz ≤ 8) (h : errOf L E s sz = 0) : s.Fits := by
  refine not_reaches (sz := sz) hz ?_
  cases e : anyIx (fun k => decide (8 * sz ≤ place s.st s.ln s.od k)) s.ln.toNat with
  | false => rfl
  | true =>
    exfalso
    rw [errOf] at h
    split at h
    · omega
    · split at h
      · omega
      · split at h
        · omega
        · first | omega | (rw [if_pos e] at h; omega)

theorem errSigs_none {L : List Sg} {sz : Int} (h : errIx L sz = L.length) : errSigsE L sz = 0 ∧ errSigsP L sz = 0 := by
  rw [errSigsE, errSigsP, h, if_neg (by omega), if_neg (by omega)]; exact ⟨rfl, rfl⟩
theorem errSigs_is {L : List Sg} {sz : Int} {k : Nat} (h : errIx L sz = k) (hk : k < L.length) : errSigsE L sz = errAt L sz k ∧ errSigsP L sz = (sgAt L k).pl := by
  rw [errSigsE, errSigsP, h, if_pos hk, if_pos hk]; exact ⟨rfl, rfl⟩

theorem sgAt_take (L : List Sg) (i k : Nat) (h : k < i) : sgAt (L.take i) k = sgAt L k := by
  simp [sgAt, h]

theorem flat_take {α : Type} (f : α → List Value) (s : Nat) (hf : ∀ a, (f a).length = s) (L : List α) (k : Nat) : (L.take k).flatMap f = (L.flatMap f).take (k * s) := by
  induction L generalizing k with
  | nil => simp
  | cons a L ih =>
    cases k with
    | zero => simp
    | succ k =>
      rw [List.take_succ_cons, List.flatMap_cons, List.flatMap_cons, ih k, List.take_append, hf, List.take_of_length_le (l := f a) (by rw [hf, Nat.succ_mul]; omega)]
      rw [show (k + 1) * s - s = k * s by rw [Nat.succ_mul]; omega]

theorem SigsAt.take {w : World} {a : Option Addr} {cap k : Nat} {L : List Sg} (h : SigsAt w (.slice a L.length cap) L) (hk : k < L.length) : SigsAt w (.slice a k cap) (L.take k) := by
  have := ownsRow_take h k (by omega) (by omega)
  unfold SigsAt
  rw [flat_take Sg.cells 7 (fun _ => rfl) L k, List.length_take, Nat.min_eq_left (by omega)]
  exact this

set_option maxHeartbeats 1000000 in
theorem checkSignals_any (pl id sz : Int) (mv : Value) (L : List Sg) (w : World) (hL : SigsAt w mv L) (hl : L.length ≤ 8)
    (hok : ∀ k, k < L.length → (sgAt L k).Ok) (hz0 : 0 ≤ sz) (hz : sz ≤ 8) :
    Calls Try.prog 98 #[.agg #[.int .i64 pl, .int .i64 id, .int .i64 sz, mv]] w
      fun e w' => e = .returned (.tuple #[.int .i64 (errSigsE L sz), .int .i64 (errSigsP L sz)]) ∧ Below w.heap.size w w' := by
  have HL := hide hL
  have HOK := hide hok
  clear hL hok
  rcases (unhide HL).opened with ⟨rfl, a, c, rfl⟩ | ⟨g, cap, rfl, hg, hcap, hcm, hc⟩
  · go_enter Try.func98, Try.ntmps98
    go_wp2
    refine wp_loop_rounds 1 ?_
    rw [rounds_succ]
    go_wp2
    go_ret2
    exact ⟨by simp [errSigsE, errSigsP], (Below.refl _ _).alloc (Nat.le_refl _) _⟩
  · have HC := hide hc
    unfold maxLen at hcm
    clear hc
    have hbox := fun (wx : World) (h : Below (w.heap.size + 1) (w.alloc (.cells #[.int .i64 pl, .int .i64 id, .int .i64 sz, .slice (some ⟨g, 0, none⟩) L.length cap] 82)) wx) => box_cell h
    go_enter Try.func98, Try.ntmps98
    go_wp2
    go_loopw [4, 5] (fun i _ wr => ∃ k : Nat, k ≤ L.length ∧ i = .int .i64 k ∧ (∀ j, j < k → decide (errAt L sz j ≠ 0) = false) ∧
      Below (w.heap.size + 1) (w.alloc (.cells #[.int .i64 pl, .int .i64 id, .int .i64 sz, .slice (some ⟨g, 0, none⟩) L.length cap] 82)) wr) (fun i _ _ => L.length - (intOf i).toNat)
    case atStart => exact ⟨0, by omega, rfl, by intro j hj; omega, Below.refl _ _⟩
    case round =>
      obtain ⟨k, hk, rfl, hno, hb⟩ := hrel
      have HN := hide hno
      clear hno
      by_cases hlt : k < L.length
      · have hc7 := fun (wx : World) (h : Below (w.heap.size + 1) (w.alloc (.cells #[.int .i64 pl, .int .i64 id, .int .i64 sz, .slice (some ⟨g, 0, none⟩) L.length cap] 82)) wx) => cells7 (unhide HC) hg (box_below h) hlt
        have hi0 : (0 : Int) ≤ (k : Int) := by omega
        have hi1 : (k : Int) < (L.length : Int) := by omega
        have hi2 : (k : Int) ≤ (L.length : Int) := by omega
        have hi3 : (k : Int) ≤ (cap : Int) := by omega
        have FOK : Hid (∀ j, j < (L.take k).length → (sgAt (L.take k) j).Ok ∧ (sgAt (L.take k) j).Fits) := hide (fun j hj => by
          rw [List.length_take] at hj
          rw [sgAt_take L k j (by omega)]
          exact ⟨unhide HOK j (by omega), errOf_fits hz (show errAt L sz j = 0 by have := unhide HN j (by omega); simpa using this)⟩)
        have HT := hide (show (L.take k).length ≤ 8 by rw [List.length_take]; omega)
        go_wp2
        refine wp_region_noPanic ?_
        refine wp_region_held_drew (S := fun w' => Below (w.heap.size + 1) (w.alloc (.cells #[.int .i64 pl, .int .i64 id, .int .i64 sz, .slice (some ⟨g, 0, none⟩) L.length cap] 82)) w') (by kernel_rfl) hb.drew (fun hHeld => ?_)
        clear hb
        refine wpAnyH_take (i := 0) (v := ?_) (at_list rfl) (by kernel_rfl) (by kernel_rfl) (by kernel_rfl) (fun _ _ _ h => h) (Or.inl ⟨by rfl, ?_⟩) (by assumption) ?_
        rotate_left
        · intro w hSw; (try dsimp only at hSw); first | (go_simp; done) | (go_simp; with_reducible rfl)
        try simp only [Act.put]
        try simp only [List.setIfInBounds_toArray]
        try simp only [List.set_cons_succ]
        try simp only [List.set_cons_zero]
        refine wpAnyH_take (i := 1) (v := ?_) (at_list rfl) (by kernel_rfl) (by kernel_rfl) (by kernel_rfl) (fun _ _ _ h => h) (Or.inl ⟨by rfl, ?_⟩) (by assumption) ?_
        rotate_left
        · intro w hSw; (try dsimp only at hSw); first | (go_simp; done) | (go_simp; with_reducible rfl)
        try simp only [Act.put]
        try simp only [List.setIfInBounds_toArray]
        try simp only [List.set_cons_succ]
        try simp only [List.set_cons_zero]
        refine wpAnyH_take (i := 2) (v := ?_) (at_list rfl) (by kernel_rfl) (by kernel_rfl) (by kernel_rfl) (fun _ _ _ h => h) (Or.inl ⟨by rfl, ?_⟩) (by assumption) ?_
        rotate_left
        · intro w hSw; (try dsimp only at hSw); first | (go_simp; done) | (go_simp; with_reducible rfl)
        try simp only [Act.put]
        try simp only [List.setIfInBounds_toArray]
        try simp only [List.set_cons_succ]
        try simp only [List.set_cons_zero]
        refine wpAnyH_take (i := 3) (v := ?_) (at_list rfl) (by kernel_rfl) (by kernel_rfl) (by kernel_rfl) (fun _ _ _ h => h) (Or.inl ⟨by rfl, ?_⟩) (by assumption) ?_
        rotate_left
        · intro w hSw; (try dsimp only at hSw); first | (go_simp; done) | (go_simp; with_reducible rfl)
        try simp only [Act.put]
        try simp only [List.setIfInBounds_toArray]
        try simp only [List.set_cons_succ]
        try simp only [List.set_cons_zero]
        refine wpAnyH_take (i := 4) (v := ?_) (at_list rfl) (by kernel_rfl) (by kernel_rfl) (by kernel_rfl) (fun _ _ _ h => h) (Or.inl ⟨by rfl, ?_⟩) (by assumption) ?_
        rotate_left
        · intro w hSw; (try dsimp only at hSw); first | (go_simp; done) | (go_simp; with_reducible rfl)
        try simp only [Act.put]
        try simp only [List.setIfInBounds_toArray]
        try simp only [List.set_cons_succ]
        try simp only [List.set_cons_zero]
        refine wpAnyH_take (i := 5) (v := ?_) (at_list rfl) (by kernel_rfl) (by kernel_rfl) (by kernel_rfl) (fun _ _ _ h => h) (Or.inl ⟨by rfl, ?_⟩) (by assumption) ?_
        rotate_left
        · intro w hSw; (try dsimp only at hSw); first | (go_simp; done) | (go_simp; with_reducible rfl)
        try simp only [Act.put]
        try simp only [List.setIfInBounds_toArray]
        try simp only [List.set_cons_succ]
        try simp only [List.set_cons_zero]
        refine wpAnyH_take (i := 6) (v := ?_) (at_list rfl) (by kernel_rfl) (by kernel_rfl) (by kernel_rfl) (fun _ _ _ h => h) (Or.inl ⟨by rfl, ?_⟩) (by assumption) ?_
        rotate_left
        · intro w hSw; (try dsimp only at hSw); first | (go_simp; done) | (go_simp; with_reducible rfl)
        try simp only [Act.put]
        try simp only [List.setIfInBounds_toArray]
        try simp only [List.set_cons_succ]
        try simp only [List.set_cons_zero]
        refine wpAnyH_take (i := 7) (v := ?_) (at_list rfl) (by kernel_rfl) (by kernel_rfl) (by kernel_rfl) (fun _ _ _ h => h) (Or.inl ⟨by rfl, ?_⟩) (by assumption) ?_
        rotate_left
        · intro w hSw; (try dsimp only at hSw); first | (go_simp; done) | (go_simp; with_reducible rfl)
        try simp only [Act.put]
        try simp only [List.setIfInBounds_toArray]
        try simp only [List.set_cons_succ]
        try simp only [List.set_cons_zero]
        refine wpAnyH_take (i := 8) (v := ?_) (at_list rfl) (by kernel_rfl) (by kernel_rfl) (by kernel_rfl) (fun _ _ _ h => h) (Or.inl ⟨by rfl, ?_⟩) (by assumption) ?_
        rotate_left
        · intro w hSw; (try dsimp only at hSw); first | (go_simp; done) | (go_simp; with_reducible rfl)
        try simp only [Act.put]
        try simp only [List.setIfInBounds_toArray]
        try simp only [List.set_cons_succ]
        try simp only [List.set_cons_zero]
        refine wpAnyH_take (i := 9) (v := ?_) (at_list rfl) (by kernel_rfl) (by kernel_rfl) (by kernel_rfl) (fun _ _ _ h => h) (Or.inl ⟨by rfl, ?_⟩) (by assumption) ?_
        rotate_left
        · intro w hSw; (try dsimp only at hSw); first | (go_simp; done) | (go_simp; with_reducible rfl)
        try simp only [Act.put]
        try simp only [List.setIfInBounds_toArray]
        try simp only [List.set_cons_succ]
        try simp only [List.set_cons_zero]
        refine wpAnyH_ready (rs := [10]) (by kernel_rfl) (by simp) ?_
        refine AllReadyH.cons (at_list rfl) (fun K hK => ?_) AllReadyH.nil
        go_simp
        refine (checkSignal_any pl id sz _ _ L (L.take k) (sgAt L k) _ (ownsRow_below (unhide HL) (box_below hHeld)) ((show SigsAt _ _ L from ownsRow_below (unhide HL) (box_below hHeld)).take hlt) hl (unhide HT) (unhide HOK k hlt) (unhide FOK) hz0 hz).mono ?_; rintro e w3 ⟨rfl, hb3⟩; dsimp only
        refine hK.out _ _ (box_next hHeld hb3) (fun hHeld => ?_)
        clear hK K
        try simp only [Act.put]
        try simp only [List.setIfInBounds_toArray]
        try simp only [List.set_cons_succ]
        try simp only [List.set_cons_zero]
        refine wpAnyH_take (i := 11) (v := ?_) (at_list rfl) (by kernel_rfl) (by kernel_rfl) (by kernel_rfl) (fun _ _ _ h => h) (Or.inl ⟨by rfl, ?_⟩) (by assumption) ?_
        rotate_left
        · intro w hSw; (try dsimp only at hSw); first | (go_simp; done) | (go_simp; with_reducible rfl)
        try simp only [Act.put]
        try simp only [List.setIfInBounds_toArray]
        try simp only [List.set_cons_succ]
        try simp only [List.set_cons_zero]
        refine wpAnyH_done (by kernel_rfl) ?_ _
        refine NoPanic.normal ?_
        clear hb3
        by_cases hz2 : errAt L sz k ≠ 0
        · have hz3 : (errOf L (L.take k) (sgAt L k) sz != 0) = true := by simpa [errAt] using hz2
          have HZ := hide hz2
          clear hz2
          go_wp2
          refine wp_region_noPanic ?_
          refine wp_region_held_drew (S := fun w' => Below (w.heap.size + 1) (w.alloc (.cells #[.int .i64 pl, .int .i64 id, .int .i64 sz, .slice (some ⟨g, 0, none⟩) L.length cap] 82)) w') (by kernel_rfl) (by exact (Below.drew (by assumption))) (fun hHeld => ?_)
          refine wpAnyH_take (i := 0) (v := ?_) (at_list rfl) (by kernel_rfl) (by kernel_rfl) (by kernel_rfl) (fun _ _ _ h => h) (Or.inl ⟨by rfl, ?_⟩) (by assumption) ?_
          rotate_left
          · intro w hSw; (try dsimp only at hSw); first | (go_simp; done) | (go_simp; with_reducible rfl)
          try simp only [Act.put]
          try simp only [List.setIfInBounds_toArray]
          try simp only [List.set_cons_succ]
          try simp only [List.set_cons_zero]
          refine wpAnyH_take (i := 1) (v := ?_) (at_list rfl) (by kernel_rfl) (by kernel_rfl) (by kernel_rfl) (fun _ _ _ h => h) (Or.inl ⟨by rfl, ?_⟩) (by assumption) ?_
          rotate_left
          · intro w hSw; (try dsimp only at hSw); first | (go_simp; done) | (go_simp; with_reducible rfl)
          try simp only [Act.put]
          try simp only [List.setIfInBounds_toArray]
          try simp only [List.set_cons_succ]
          try simp only [List.set_cons_zero]
          refine wpAnyH_take (i := 2) (v := ?_) (at_list rfl) (by kernel_rfl) (by kernel_rfl) (by kernel_rfl) (fun _ _ _ h => h) (Or.inl ⟨by rfl, ?_⟩) (by assumption) ?_
          rotate_left
          · intro w hSw; (try dsimp only at hSw); first | (go_simp; done) | (go_simp; with_reducible rfl)
          try simp only [Act.put]
          try simp only [List.setIfInBounds_toArray]
          try simp only [List.set_cons_succ]
          try simp only [List.set_cons_zero]
          refine wpAnyH_take (i := 3) (v := ?_) (at_list rfl) (by kernel_rfl) (by kernel_rfl) (by kernel_rfl) (fun _ _ _ h => h) (Or.inl ⟨by rfl, ?_⟩) (by assumption) ?_
          rotate_left
          · intro w hSw; (try dsimp only at hSw); first | (go_simp; done) | (go_simp; with_reducible rfl)
          try simp only [Act.put]
          try simp only [List.setIfInBounds_toArray]
          try simp only [List.set_cons_succ]
          try simp only [List.set_cons_zero]
          refine wpAnyH_take (i := 4) (v := ?_) (at_list rfl) (by kernel_rfl) (by kernel_rfl) (by kernel_rfl) (fun _ _ _ h => h) (Or.inl ⟨by rfl, ?_⟩) (by assumption) ?_
          rotate_left
          · intro w hSw; (try dsimp only at hSw); first | (go_simp; done) | (go_simp; with_reducible rfl)
          try simp only [Act.put]
          try simp only [List.setIfInBounds_toArray]
          try simp only [List.set_cons_succ]
          try simp only [List.set_cons_zero]
          refine wpAnyH_take (i := 5) (v := ?_) (at_list rfl) (by kernel_rfl) (by kernel_rfl) (by kernel_rfl) (fun _ _ _ h => h) (Or.inl ⟨by rfl, ?_⟩) (by assumption) ?_
          rotate_left
          · intro w hSw; (try dsimp only at hSw); first | (go_simp; done) | (go_simp; with_reducible rfl)
          try simp only [Act.put]
          try simp only [List.setIfInBounds_toArray]
          try simp only [List.set_cons_succ]
          try simp only [List.set_cons_zero]
          refine wpAnyH_take (i := 6) (v := ?_) (at_list rfl) (by kernel_rfl) (by kernel_rfl) (by kernel_rfl) (fun _ _ _ h => h) (Or.inl ⟨by rfl, ?_⟩) (by assumption) ?_
          rotate_left
          · intro w hSw; (try dsimp only at hSw); first | (go_simp; done) | (go_simp; with_reducible rfl)
          try simp only [Act.put]
          try simp only [List.setIfInBounds_toArray]
          try simp only [List.set_cons_succ]
          try simp only [List.set_cons_zero]
          refine wpAnyH_take (i := 7) (v := ?_) (at_list rfl) (by kernel_rfl) (by kernel_rfl) (by kernel_rfl) (fun _ _ _ h => h) (Or.inl ⟨by rfl, ?_⟩) (by assumption) ?_
          rotate_left
          · intro w hSw; (try dsimp only at hSw); first | (go_simp; done) | (go_simp; with_reducible rfl)
          try simp only [Act.put]
          try simp only [List.setIfInBounds_toArray]
          try simp only [List.set_cons_succ]
          try simp only [List.set_cons_zero]
          refine wpAnyH_take (i := 8) (v := ?_) (at_list rfl) (by kernel_rfl) (by kernel_rfl) (by kernel_rfl) (fun _ _ _ h => h) (Or.inl ⟨by rfl, ?_⟩) (by assumption) ?_
          rotate_left
          · intro w hSw; (try dsimp only at hSw); first | (go_simp; done) | (go_simp; with_reducible rfl)
          try simp only [Act.put]
          try simp only [List.setIfInBounds_toArray]
          try simp only [List.set_cons_succ]
          try simp only [List.set_cons_zero]
          refine wpAnyH_done (by kernel_rfl) ?_ _
          refine NoPanic.normal ?_
          go_wp2
          go_ret2
          have hx : errIx L sz = k := firstIx_is (unhide HN) hlt (by simpa using unhide HZ)
          exact ⟨by rw [(errSigs_is hx hlt).1, (errSigs_is hx hlt).2]; rfl, box_below (by assumption)⟩
        · have hz3 : (errOf L (L.take k) (sgAt L k) sz != 0) = false := by simpa [errAt] using hz2
          have HZ := hide hz2
          clear hz2
          go_wp2
          go_roundw
          case rel => exact ⟨k + 1, by omega, by go_num, fun j hj => by
              by_cases e : j = k
              · subst e; simpa using unhide HZ
              · exact unhide HN j (by omega), by assumption⟩
          case measure => simp [intOf]; omega
      · go_wp2
        go_ret2
        have hx : errIx L sz = L.length := firstIx_none (fun j hj => unhide HN j (by omega))
        exact ⟨by rw [(errSigs_none hx).1, (errSigs_none hx).2]; rfl, box_below hb⟩

end Go.Proofs.Ytoihlnjcgopdlab

namespace Go.Proofs.Ytoihlnjcgopdlab
open Go.RowKit

theorem anyIx_congr {f g : Nat → Bool} {n : Nat} (h : ∀ k, k < n → f k = g k) : anyIx f n = anyIx g n := by
  rw [Bool.eq_iff_iff, anyIx_true, anyIx_true]
  constructor
  · rintro ⟨k, hk, e⟩; exact ⟨k, hk, by rw [← h k hk]; exact e⟩
  · rintro ⟨k, hk, e⟩; exact ⟨k, hk, by rw [h k hk]; exact e⟩

/-- As the document's reader says it. -/
def errR (L : List Sg) (sz : Int) (i : Nat) : Int :=
  if anyIx (fun k => decide ((sgAt L k).nm = (sgAt L i).nm)) i then 3
  else if ((sgAt L i).rl = 77 ∧ muxOf L < i) ∨ (isDigB (sgAt L i).rl = true ∧ muxOf L < 0) then 4
  else if anyIx (fun k => decide (8 * sz ≤ place (sgAt L i).st (sgAt L i).ln (sgAt L i).od k)) (sgAt L i).ln.toNat then 5
  else if anyIx (fun k => meetB (sgAt L k).rl (sgAt L i).rl && shareB (sgAt L k) (sgAt L i)) i then 6
  else 0

theorem mux_lt (L : List Sg) (i : Nat) (hi : i < L.length) (h : (sgAt L i).rl = 77) : muxOf L < i ↔ 0 ≤ muxOf (L.take i) := by
  have hlen : (L.take i).length = i := by rw [List.length_take]; omega
  unfold muxOf findIx
  rw [hlen]
  have hle := firstIx_le (fun k => decide ((sgAt L k).rl = 77)) L.length
  have hno := firstIx_no (fun k => decide ((sgAt L k).rl = 77)) L.length
  have hyes := firstIx_yes (fun k => decide ((sgAt L k).rl = 77)) L.length
  have hle2 := firstIx_le (fun k => decide ((sgAt (L.take i) k).rl = 77)) i
  have hno2 := firstIx_no (fun k => decide ((sgAt (L.take i) k).rl = 77)) i
  have hyes2 := firstIx_yes (fun k => decide ((sgAt (L.take i) k).rl = 77)) i
  generalize firstIx (fun k => decide ((sgAt L k).rl = 77)) L.length = x at *
  generalize firstIx (fun k => decide ((sgAt (L.take i) k).rl = 77)) i = y at *
  have hxi : x ≤ i := by
    rcases Nat.lt_or_ge i x with h' | h'
    · have := hno i h'; simp [h] at this
    · exact h'
  have hx : x < L.length := by omega
  rw [if_pos hx]
  have hxy : x < i → y ≤ x := by
    intro h1
    rcases Nat.lt_or_ge x y with h' | h'
    · have := hno2 x h'
      rw [sgAt_take L i x h1] at this
      rw [hyes hx] at this; cases this
    · exact h'
  have hyx : y < i → x ≤ y := by
    intro h1
    rcases Nat.lt_or_ge y x with h' | h'
    · have := hno y h'
      have h2 := hyes2 h1
      rw [sgAt_take L i y h1] at h2
      rw [h2] at this; cases this
    · exact h'
  constructor
  · intro h1
    have := hxy (by omega)
    rw [if_pos (by omega)]; omega
  · intro h1
    by_cases h2 : y < i
    · have := hyx h2; omega
    · rw [if_neg h2] at h1; omega

theorem errAt_eq (L : List Sg) (sz : Int) (i : Nat) (hi : i < L.length) : errAt L sz i = errR L sz i := by
  have hlen : (L.take i).length = i := by rw [List.length_take]; omega
  unfold errAt errOf errR
  rw [hlen]
  rw [anyIx_congr (f := fun k => decide ((sgAt (L.take i) k).nm = (sgAt L i).nm)) (g := fun k => decide ((sgAt L k).nm = (sgAt L i).nm)) (fun k hk => by rw [sgAt_take L i k hk])]
  rw [anyIx_congr (f := fun k => shareB (sgAt (L.take i) k) (sgAt L i) && meetB (sgAt (L.take i) k).rl (sgAt L i).rl) (g := fun k => meetB (sgAt L k).rl (sgAt L i).rl && shareB (sgAt L k) (sgAt L i)) (fun k hk => by rw [sgAt_take L i k hk, Bool.and_comm])]
  by_cases h : (sgAt L i).rl = 77
  · have hd : isDigB (sgAt L i).rl = false := by rw [h]; rfl
    have := mux_lt L i hi h
    by_cases h2 : muxOf L < i
    · rw [if_pos (c := (sgAt L i).rl = 77 ∧ 0 ≤ muxOf (L.take i)) ⟨h, this.1 h2⟩, if_pos (c := ((sgAt L i).rl = 77 ∧ muxOf L < i) ∨ (isDigB (sgAt L i).rl = true ∧ muxOf L < 0)) (.inl ⟨h, h2⟩)]
    · rw [if_neg (c := (sgAt L i).rl = 77 ∧ 0 ≤ muxOf (L.take i)) (fun x => h2 (this.2 x.2)), if_neg (c := isDigB (sgAt L i).rl = true ∧ muxOf L < 0) (by rw [hd]; simp), if_neg (c := ((sgAt L i).rl = 77 ∧ muxOf L < i) ∨ (isDigB (sgAt L i).rl = true ∧ muxOf L < 0)) (by rw [hd]; rintro (x | x); exact h2 x.2; simp at x)]
  · rw [if_neg (c := (sgAt L i).rl = 77 ∧ 0 ≤ muxOf (L.take i)) (fun x => h x.1)]
    by_cases h2 : isDigB (sgAt L i).rl = true ∧ muxOf L < 0
    · rw [if_pos h2, if_pos (c := ((sgAt L i).rl = 77 ∧ muxOf L < i) ∨ (isDigB (sgAt L i).rl = true ∧ muxOf L < 0)) (.inr h2)]
    · rw [if_neg h2, if_neg (c := ((sgAt L i).rl = 77 ∧ muxOf L < i) ∨ (isDigB (sgAt L i).rl = true ∧ muxOf L < 0)) (by rintro (x | x); exact h x.1; exact h2 x)]

/-- The seven cells of an element of the document's slice of signals. -/
theorem rcells7 {w wr : World} {g k : Nat} {L : List Sg} (hc : ∀ k j, k < L.length → j < 7 → w.cell? ⟨g, k * 7 + j, none⟩ = (sgAt L k).rcells[j]?) (hg : g < w.heap.size) (hb : Below w.heap.size w wr) (hk : k < L.length) :
    wr.cell? ⟨g, k * 7, none⟩ = some (.int .u8 (sgAt L k).nm) ∧ wr.cell? ⟨g, k * 7 + 1, none⟩ = some (.int .i64 (sgAt L k).st) ∧ wr.cell? ⟨g, k * 7 + 2, none⟩ = some (.int .i64 (sgAt L k).ln) ∧
    wr.cell? ⟨g, k * 7 + 3, none⟩ = some (.bool (decide ((sgAt L k).od = 62))) ∧ wr.cell? ⟨g, k * 7 + 4, none⟩ = some (.bool (decide ((sgAt L k).kd = 115))) ∧ wr.cell? ⟨g, k * 7 + 5, none⟩ = some (.int .u8 (sgAt L k).rl) ∧
    wr.cell? ⟨g, k * 7 + 6, none⟩ = some (.int .i64 (sgAt L k).pl) := by
  have h : ∀ j, j < 7 → wr.cell? ⟨g, k * 7 + j, none⟩ = (sgAt L k).rcells[j]? := fun j hj => by
    rw [hb.cell (p := ⟨g, k * 7 + j, none⟩) hg]; exact hc k j hk hj
  exact ⟨h 0 (by omega), h 1 (by omega), h 2 (by omega), h 3 (by omega), h 4 (by omega), h 5 (by omega), h 6 (by omega)⟩

end Go.Proofs.Ytoihlnjcgopdlab

namespace Go.Proofs.Ytoihlnjcgopdlab
open Go.RowKit

set_option maxRecDepth 100000 in
set_option maxHeartbeats 2000000 in
theorem rWrong_any (id : ByteArray) (sz pl : Int) (v : Value) (L : List Sg) (i : Nat) (w : World) (hL : RSigsAt w v L) (hl : L.length ≤ 8) (hi : i < L.length)
    (hok : ∀ k, k < L.length → (sgAt L k).Ok) (hz0 : 0 ≤ sz) (hz : sz ≤ 8) :
    Calls Try.prog 45 #[.agg #[.string id, .int .i64 sz, v, .int .i64 pl], .int .i64 i] w
      fun e w' => e = .returned (.int .i64 (errR L sz i)) ∧ Below w.heap.size w w' := by
  have HL := hide hL
  have HOK := hide hok
  clear hL hok
  rcases (unhide HL).opened with ⟨rfl, a, c, rfl⟩ | ⟨g, cap, rfl, hg, hcap, hcm, hc⟩
  · simp at hi
  have HC := hide hc
  unfold maxLen at hcm
  clear hc
  have ci := fun (wx : World) (h : Below w.heap.size w wx) => rcells7 (unhide HC) hg h hi
  have ciw := ci _ ((Below.refl _ _).alloc (Nat.le_refl _) (.cells #[.string id, .int .i64 sz, .slice (some ⟨g, 0, none⟩) L.length cap, .int .i64 pl] 50))
  have hbox := fun (wx : World) (h : Below (w.heap.size + 2) ((w.alloc (.cells #[.string id, .int .i64 sz, .slice (some ⟨g, 0, none⟩) L.length cap, .int .i64 pl] 50)).alloc (.cells #[.int .u8 (sgAt L i).nm, .int .i64 (sgAt L i).st, .int .i64 (sgAt L i).ln, .bool (decide ((sgAt L i).od = 62)), .bool (decide ((sgAt L i).kd = 115)), .int .u8 (sgAt L i).rl, .int .i64 (sgAt L i).pl] 78)) wx) (j : Nat) => box2_cell h j
  have OKi := hide (unhide HOK i hi)
  have lni := (unhide OKi).ln0
  have lni1 := (unhide OKi).ln1
  go_enter Try.func45, Try.ntmps45
  go_wp2
  clear ciw ci
  go_loopw [6] (fun r wr => ∃ k : Nat, k ≤ i ∧ r = .int .i64 k ∧ (∀ j, j < k → decide ((sgAt L j).nm = (sgAt L i).nm) = false) ∧ Below (w.heap.size + 2) ((w.alloc (.cells #[.string id, .int .i64 sz, .slice (some ⟨g, 0, none⟩) L.length cap, .int .i64 pl] 50)).alloc (.cells #[.int .u8 (sgAt L i).nm, .int .i64 (sgAt L i).st, .int .i64 (sgAt L i).ln, .bool (decide ((sgAt L i).od = 62)), .bool (decide ((sgAt L i).kd = 115)), .int .u8 (sgAt L i).rl, .int .i64 (sgAt L i).pl] 78)) wr) (fun r _ => i - (intOf r).toNat)
  case atStart => exact ⟨0, by omega, rfl, by intro j hj; omega, Below.refl _ _⟩
  case round =>
    obtain ⟨k, hk, rfl, hno, hb⟩ := hrel
    have HN := hide hno
    clear hno
    by_cases hlt : k < i
    · have ck := fun (wx : World) (h : Below (w.heap.size + 2) ((w.alloc (.cells #[.string id, .int .i64 sz, .slice (some ⟨g, 0, none⟩) L.length cap, .int .i64 pl] 50)).alloc (.cells #[.int .u8 (sgAt L i).nm, .int .i64 (sgAt L i).st, .int .i64 (sgAt L i).ln, .bool (decide ((sgAt L i).od = 62)), .bool (decide ((sgAt L i).kd = 115)), .int .u8 (sgAt L i).rl, .int .i64 (sgAt L i).pl] 78)) wx) => rcells7 (k := k) (unhide HC) hg (box2_below h) (by omega)
      have hi0 : (0 : Int) ≤ (k : Int) := by omega
      have hi1 : (k : Int) < (L.length : Int) := by omega
      go_wp2
      refine wp_region_noPanic ?_
      refine wp_region_held_drew (S := fun w' => Below (w.heap.size + 2) ((w.alloc (.cells #[.string id, .int .i64 sz, .slice (some ⟨g, 0, none⟩) L.length cap, .int .i64 pl] 50)).alloc (.cells #[.int .u8 (sgAt L i).nm, .int .i64 (sgAt L i).st, .int .i64 (sgAt L i).ln, .bool (decide ((sgAt L i).od = 62)), .bool (decide ((sgAt L i).kd = 115)), .int .u8 (sgAt L i).rl, .int .i64 (sgAt L i).pl] 78)) w') (by kernel_rfl) hb.drew (fun hHeld => ?_)
      clear hb
      refine wpAnyH_take (i := 0) (v := ?_) (at_list rfl) (by kernel_rfl) (by kernel_rfl) (by kernel_rfl) (fun _ _ _ h => h) (Or.inl ⟨by rfl, ?_⟩) (by assumption) ?_
      rotate_left
      · intro w hSw; (try dsimp only at hSw); first | (go_simp; done) | (go_simp; with_reducible rfl)
      try simp only [Act.put]
      try simp only [List.setIfInBounds_toArray]
      try simp only [List.set_cons_succ]
      try simp only [List.set_cons_zero]
      refine wpAnyH_take (i := 1) (v := ?_) (at_list rfl) (by kernel_rfl) (by kernel_rfl) (by kernel_rfl) (fun _ _ _ h => h) (Or.inl ⟨by rfl, ?_⟩) (by assumption) ?_
      rotate_left
      · intro w hSw; (try dsimp only at hSw); first | (go_simp; done) | (go_simp; with_reducible rfl)
      try simp only [Act.put]
      try simp only [List.setIfInBounds_toArray]
      try simp only [List.set_cons_succ]
      try simp only [List.set_cons_zero]
      refine wpAnyH_take (i := 2) (v := ?_) (at_list rfl) (by kernel_rfl) (by kernel_rfl) (by kernel_rfl) (fun _ _ _ h => h) (Or.inl ⟨by rfl, ?_⟩) (by assumption) ?_
      rotate_left
      · intro w hSw; (try dsimp only at hSw); first | (go_simp; done) | (go_simp; with_reducible rfl)
      try simp only [Act.put]
      try simp only [List.setIfInBounds_toArray]
      try simp only [List.set_cons_succ]
      try simp only [List.set_cons_zero]
      refine wpAnyH_take (i := 3) (v := ?_) (at_list rfl) (by kernel_rfl) (by kernel_rfl) (by kernel_rfl) (fun _ _ _ h => h) (Or.inl ⟨by rfl, ?_⟩) (by assumption) ?_
      rotate_left
      · intro w hSw; (try dsimp only at hSw); first | (go_simp; done) | (go_simp; with_reducible rfl)
      try simp only [Act.put]
      try simp only [List.setIfInBounds_toArray]
      try simp only [List.set_cons_succ]
      try simp only [List.set_cons_zero]
      refine wpAnyH_take (i := 4) (v := ?_) (at_list rfl) (by kernel_rfl) (by kernel_rfl) (by kernel_rfl) (fun _ _ _ h => h) (Or.inl ⟨by rfl, ?_⟩) (by assumption) ?_
      rotate_left
      · intro w hSw; (try dsimp only at hSw); first | (go_simp; done) | (go_simp; with_reducible rfl)
      try simp only [Act.put]
      try simp only [List.setIfInBounds_toArray]
      try simp only [List.set_cons_succ]
      try simp only [List.set_cons_zero]
      refine wpAnyH_take (i := 5) (v := ?_) (at_list rfl) (by kernel_rfl) (by kernel_rfl) (by kernel_rfl) (fun _ _ _ h => h) (Or.inl ⟨by rfl, ?_⟩) (by assumption) ?_
      rotate_left
      · intro w hSw; (try dsimp only at hSw); first | (go_simp; done) | (go_simp; with_reducible rfl)
      try simp only [Act.put]
      try simp only [List.setIfInBounds_toArray]
      try simp only [List.set_cons_succ]
      try simp only [List.set_cons_zero]
      refine wpAnyH_take (i := 6) (v := ?_) (at_list rfl) (by kernel_rfl) (by kernel_rfl) (by kernel_rfl) (fun _ _ _ h => h) (Or.inl ⟨by rfl, ?_⟩) (by assumption) ?_
      rotate_left
      · intro w hSw; (try dsimp only at hSw); first | (go_simp; done) | (go_simp; with_reducible rfl)
      try simp only [Act.put]
      try simp only [List.setIfInBounds_toArray]
      try simp only [List.set_cons_succ]
      try simp only [List.set_cons_zero]
      refine wpAnyH_take (i := 7) (v := ?_) (at_list rfl) (by kernel_rfl) (by kernel_rfl) (by kernel_rfl) (fun _ _ _ h => h) (Or.inl ⟨by rfl, ?_⟩) (by assumption) ?_
      rotate_left
      · intro w hSw; (try dsimp only at hSw); first | (go_simp; done) | (go_simp; with_reducible rfl)
      try simp only [Act.put]
      try simp only [List.setIfInBounds_toArray]
      try simp only [List.set_cons_succ]
      try simp only [List.set_cons_zero]
      refine wpAnyH_take (i := 8) (v := ?_) (at_list rfl) (by kernel_rfl) (by kernel_rfl) (by kernel_rfl) (fun _ _ _ h => h) (Or.inl ⟨by rfl, ?_⟩) (by assumption) ?_
      rotate_left
      · intro w hSw; (try dsimp only at hSw); first | (go_simp; done) | (go_simp; with_reducible rfl)
      try simp only [Act.put]
      try simp only [List.setIfInBounds_toArray]
      try simp only [List.set_cons_succ]
      try simp only [List.set_cons_zero]
      refine wpAnyH_done (by kernel_rfl) ?_ _
      refine NoPanic.normal ?_
      clear ck
      by_cases hm : (sgAt L k).nm = (sgAt L i).nm
      · have hmb : ((sgAt L k).nm == (sgAt L i).nm) = true := by simp [hm]
        have HM := hide hm
        clear hm
        go_wp2
        go_ret
        exact ⟨ret_int (by rw [errR, if_pos (anyIx_is (unhide HN) hlt (by simpa using unhide HM))]), box2_below (by assumption)⟩
      · have hmb : ((sgAt L k).nm == (sgAt L i).nm) = false := by simp [hm]
        have HM := hide hm
        clear hm
        go_wp2
        go_roundw
        case rel => exact ⟨k + 1, by omega, by go_num, fun j hj => by
            by_cases e : j = k
            · subst e; simpa using unhide HM
            · exact unhide HN j (by omega), by assumption⟩
        case measure => simp [intOf]; omega
    · have hki : k = i := by omega
      subst hki
      have Q1 := hide (anyIx_none (unhide HN))
      have hbx := hbox _ hb
      go_wp2_with fail
      refine (rMux_any id sz pl _ L _ (ownsRow_below (unhide HL) (box2_below hb)) hl).mono ?_
      rintro e w1 ⟨rfl, hb1⟩
      have hb1' := box2_next hb hb1
      clear hbx hb1 hb
      have hbx := hbox _ hb1'
      go_wp2_with fail
      refine (rIsDigit_any _ _).mono ?_
      rintro e w1 ⟨rfl, rfl⟩
      have hfour : ((sgAt L k).rl = 77 ∧ muxOf L < k) ∨ (isDigB (sgAt L k).rl = true ∧ muxOf L < 0) ∨ ¬ (((sgAt L k).rl = 77 ∧ muxOf L < k) ∨ (isDigB (sgAt L k).rl = true ∧ muxOf L < 0)) := by
        by_cases x : ((sgAt L k).rl = 77 ∧ muxOf L < k)
        · exact .inl x
        · by_cases y : (isDigB (sgAt L k).rl = true ∧ muxOf L < 0)
          · exact .inr (.inl y)
          · exact .inr (.inr (by rintro (z | z); exact x z; exact y z))
      rcases hfour with q2 | q2 | q2
      · have Q := hide (show errR L sz k = 4 by rw [errR, if_neg (by rw [unhide Q1]; simp), if_pos (.inl q2)])
        have qa : ((sgAt L k).rl == 77) = true := by rw [q2.1]; rfl
        have qb := q2.2
        clear q2
        go_wp2
        go_ret
        exact ⟨ret_int (by rw [unhide Q]), box2_below hb1'⟩
      · have Q := hide (show errR L sz k = 4 by rw [errR, if_neg (by rw [unhide Q1]; simp), if_pos (.inr q2)])
        have qa : isDigB (sgAt L k).rl = true := q2.1
        have qb := q2.2
        have qc : ((sgAt L k).rl == 77) = false := by
          cases e : ((sgAt L k).rl == 77) with
          | false => rfl
          | true => have e2 : (sgAt L k).rl = 77 := by simpa using e
                    rw [e2] at qa; cases qa
        clear q2
        go_wp2
        go_ret
        exact ⟨ret_int (by rw [unhide Q]), box2_below hb1'⟩
      · have Q2 := hide q2
        have hways : (((sgAt L k).rl == 77) = true ∧ (k : Int) ≤ muxOf L ∧ isDigB (sgAt L k).rl = false) ∨ (((sgAt L k).rl == 77) = false ∧ isDigB (sgAt L k).rl = false) ∨ (((sgAt L k).rl == 77) = false ∧ isDigB (sgAt L k).rl = true ∧ 0 ≤ muxOf L) := by
          by_cases x : (sgAt L k).rl = 77
          · refine .inl ⟨by rw [x]; rfl, ?_, by rw [x]; rfl⟩
            rcases Int.lt_or_le (muxOf L) k with h' | h'
            · exact absurd (.inl ⟨x, h'⟩) q2
            · exact h'
          · cases e : isDigB (sgAt L k).rl with
            | false => exact .inr (.inl ⟨by simpa using x, rfl⟩)
            | true => refine .inr (.inr ⟨by simpa using x, rfl, ?_⟩)
                      rcases Int.lt_or_le (muxOf L) 0 with h' | h'
                      · exact absurd (.inr ⟨e, h'⟩) q2
                      · exact h'
        clear q2
        have HB1 := hide hb1'
        clear hb1'
        rcases hways with ⟨qa, qb, qc⟩ | ⟨qa, qc⟩ | ⟨qa, qc, qb⟩
        all_goals
          go_wp2
          clear hbx
          go_loopw [9, 10] (fun r _ wr => ∃ m : Nat, (m : Int) ≤ (sgAt L k).ln ∧ r = .int .i64 m ∧ (∀ j, j < m → decide (8 * sz ≤ place (sgAt L k).st (sgAt L k).ln (sgAt L k).od j) = false) ∧ Below (w.heap.size + 2) ((w.alloc (.cells #[.string id, .int .i64 sz, .slice (some ⟨g, 0, none⟩) L.length cap, .int .i64 pl] 50)).alloc (.cells #[.int .u8 (sgAt L k).nm, .int .i64 (sgAt L k).st, .int .i64 (sgAt L k).ln, .bool (decide ((sgAt L k).od = 62)), .bool (decide ((sgAt L k).kd = 115)), .int .u8 (sgAt L k).rl, .int .i64 (sgAt L k).pl] 78)) wr) (fun r _ _ => ((sgAt L k).ln - intOf r).toNat)
          case atStart => exact ⟨0, by omega, rfl, by intro j hj; omega, unhide HB1⟩
          case round =>
            obtain ⟨m, hm, rfl, hno2, hb⟩ := hrel
            have HN2 := hide hno2
            clear hno2
            have hbx := hbox _ hb
            by_cases hlt2 : (m : Int) < (sgAt L k).ln
            · go_wp2_with fail
              refine (rBit_any _ (sgAt L k).st (sgAt L k).ln _ _ m (sgAt L k).od (sgAt L k).kd _ (unhide OKi).st0 (unhide OKi).st1 (unhide OKi).ln0 (unhide OKi).ln1 (unhide OKi).od (by omega) hlt2).mono ?_
              rintro e w2 ⟨rfl, hb2⟩
              have hb2' := box2_next hb hb2
              clear hb2 hb hbx
              have hbx := hbox _ hb2'
              by_cases hre : 8 * sz ≤ place (sgAt L k).st (sgAt L k).ln (sgAt L k).od m
              · go_wp2
                go_ret
                exact ⟨ret_int (by rw [errR, if_neg (by rw [unhide Q1]; simp), if_neg (unhide Q2), if_pos (anyIx_is (unhide HN2) (by omega) (by simpa using hre))]), box2_below hb2'⟩
              · go_wp2
                go_roundw
                case rel => exact ⟨m + 1, by omega, by go_num, fun j hj => by
                    by_cases e : j = m
                    · subst e; simpa using hre
                    · exact unhide HN2 j (by omega), hb2'⟩
                case measure => simp [intOf]; omega
            · have Q4 := hide (anyIx_none (n := (sgAt L k).ln.toNat) (fun j hj => unhide HN2 j (by omega)))
              have HB2 := hide hb
              clear hb
              go_wp2
              clear hbx
              go_loopw [11, 12] (fun r _ wr => ∃ m : Nat, m ≤ k ∧ r = .int .i64 m ∧ (∀ j, j < m → (meetB (sgAt L j).rl (sgAt L k).rl && shareB (sgAt L j) (sgAt L k)) = false) ∧ Below (w.heap.size + 2) ((w.alloc (.cells #[.string id, .int .i64 sz, .slice (some ⟨g, 0, none⟩) L.length cap, .int .i64 pl] 50)).alloc (.cells #[.int .u8 (sgAt L k).nm, .int .i64 (sgAt L k).st, .int .i64 (sgAt L k).ln, .bool (decide ((sgAt L k).od = 62)), .bool (decide ((sgAt L k).kd = 115)), .int .u8 (sgAt L k).rl, .int .i64 (sgAt L k).pl] 78)) wr) (fun r _ _ => k - (intOf r).toNat)
              case atStart => exact ⟨0, by omega, rfl, by intro j hj; omega, unhide HB2⟩
              case round =>
                obtain ⟨n, hn, rfl, hno3, hb⟩ := hrel
                have HN3 := hide hno3
                clear hno3
                by_cases hlt3 : n < k
                · have cn := fun (wx : World) (h : Below (w.heap.size + 2) ((w.alloc (.cells #[.string id, .int .i64 sz, .slice (some ⟨g, 0, none⟩) L.length cap, .int .i64 pl] 50)).alloc (.cells #[.int .u8 (sgAt L k).nm, .int .i64 (sgAt L k).st, .int .i64 (sgAt L k).ln, .bool (decide ((sgAt L k).od = 62)), .bool (decide ((sgAt L k).kd = 115)), .int .u8 (sgAt L k).rl, .int .i64 (sgAt L k).pl] 78)) wx) => rcells7 (k := n) (unhide HC) hg (box2_below h) (by omega)
                  have hi0 : (0 : Int) ≤ (n : Int) := by omega
                  have hi1 : (n : Int) < (L.length : Int) := by omega
                  have OKn := hide (unhide HOK n (by omega))
                  go_wp2
                  refine wp_region_noPanic ?_
                  refine wp_region_held_drew (S := fun w' => Below (w.heap.size + 2) ((w.alloc (.cells #[.string id, .int .i64 sz, .slice (some ⟨g, 0, none⟩) L.length cap, .int .i64 pl] 50)).alloc (.cells #[.int .u8 (sgAt L k).nm, .int .i64 (sgAt L k).st, .int .i64 (sgAt L k).ln, .bool (decide ((sgAt L k).od = 62)), .bool (decide ((sgAt L k).kd = 115)), .int .u8 (sgAt L k).rl, .int .i64 (sgAt L k).pl] 78)) w') (by kernel_rfl) hb.drew (fun hHeld => ?_)
                  clear hb
                  refine wpAnyH_take (i := 0) (v := ?_) (at_list rfl) (by kernel_rfl) (by kernel_rfl) (by kernel_rfl) (fun _ _ _ h => h) (Or.inl ⟨by rfl, ?_⟩) (by assumption) ?_
                  rotate_left
                  · intro w hSw; (try dsimp only at hSw); first | (go_simp; done) | (go_simp; with_reducible rfl)
                  try simp only [Act.put]
                  try simp only [List.setIfInBounds_toArray]
                  try simp only [List.set_cons_succ]
                  try simp only [List.set_cons_zero]
                  refine wpAnyH_take (i := 1) (v := ?_) (at_list rfl) (by kernel_rfl) (by kernel_rfl) (by kernel_rfl) (fun _ _ _ h => h) (Or.inl ⟨by rfl, ?_⟩) (by assumption) ?_
                  rotate_left
                  · intro w hSw; (try dsimp only at hSw); first | (go_simp; done) | (go_simp; with_reducible rfl)
                  try simp only [Act.put]
                  try simp only [List.setIfInBounds_toArray]
                  try simp only [List.set_cons_succ]
                  try simp only [List.set_cons_zero]
                  refine wpAnyH_take (i := 2) (v := ?_) (at_list rfl) (by kernel_rfl) (by kernel_rfl) (by kernel_rfl) (fun _ _ _ h => h) (Or.inl ⟨by rfl, ?_⟩) (by assumption) ?_
                  rotate_left
                  · intro w hSw; (try dsimp only at hSw); first | (go_simp; done) | (go_simp; with_reducible rfl)
                  try simp only [Act.put]
                  try simp only [List.setIfInBounds_toArray]
                  try simp only [List.set_cons_succ]
                  try simp only [List.set_cons_zero]
                  refine wpAnyH_take (i := 3) (v := ?_) (at_list rfl) (by kernel_rfl) (by kernel_rfl) (by kernel_rfl) (fun _ _ _ h => h) (Or.inl ⟨by rfl, ?_⟩) (by assumption) ?_
                  rotate_left
                  · intro w hSw; (try dsimp only at hSw); first | (go_simp; done) | (go_simp; with_reducible rfl)
                  try simp only [Act.put]
                  try simp only [List.setIfInBounds_toArray]
                  try simp only [List.set_cons_succ]
                  try simp only [List.set_cons_zero]
                  refine wpAnyH_take (i := 4) (v := ?_) (at_list rfl) (by kernel_rfl) (by kernel_rfl) (by kernel_rfl) (fun _ _ _ h => h) (Or.inl ⟨by rfl, ?_⟩) (by assumption) ?_
                  rotate_left
                  · intro w hSw; (try dsimp only at hSw); first | (go_simp; done) | (go_simp; with_reducible rfl)
                  try simp only [Act.put]
                  try simp only [List.setIfInBounds_toArray]
                  try simp only [List.set_cons_succ]
                  try simp only [List.set_cons_zero]
                  refine wpAnyH_take (i := 5) (v := ?_) (at_list rfl) (by kernel_rfl) (by kernel_rfl) (by kernel_rfl) (fun _ _ _ h => h) (Or.inl ⟨by rfl, ?_⟩) (by assumption) ?_
                  rotate_left
                  · intro w hSw; (try dsimp only at hSw); first | (go_simp; done) | (go_simp; with_reducible rfl)
                  try simp only [Act.put]
                  try simp only [List.setIfInBounds_toArray]
                  try simp only [List.set_cons_succ]
                  try simp only [List.set_cons_zero]
                  refine wpAnyH_ready (rs := [6]) (by kernel_rfl) (by simp) ?_
                  refine AllReadyH.cons (at_list rfl) (fun K hK => ?_) AllReadyH.nil
                  go_simp
                  refine (rTogether_any (sgAt L n) (sgAt L k) _).mono ?_; rintro e w3 ⟨rfl, hb3⟩; dsimp only
                  refine hK.out _ _ (box2_next hHeld hb3) (fun hHeld => ?_)
                  clear hK K
                  try simp only [Act.put]
                  try simp only [List.setIfInBounds_toArray]
                  try simp only [List.set_cons_succ]
                  try simp only [List.set_cons_zero]
                  refine wpAnyH_take (i := 7) (v := ?_) (at_list rfl) (by kernel_rfl) (by kernel_rfl) (by kernel_rfl) (fun _ _ _ h => h) (Or.inl ⟨by rfl, ?_⟩) (by assumption) ?_
                  rotate_left
                  · intro w hSw; (try dsimp only at hSw); first | (go_simp; done) | (go_simp; with_reducible rfl)
                  try simp only [Act.put]
                  try simp only [List.setIfInBounds_toArray]
                  try simp only [List.set_cons_succ]
                  try simp only [List.set_cons_zero]
                  refine wpAnyH_done (by kernel_rfl) ?_ _
                  refine NoPanic.normal ?_
                  clear hb3
                  cases hme : meetR (sgAt L n).rl (sgAt L k).rl with
                  | false =>
                    have HME := hide (show meetB (sgAt L n).rl (sgAt L k).rl = false from hme)
                    go_wp2
                    refine wp_region_noPanic ?_
                    refine wp_region_held_drew (S := fun w' => Below (w.heap.size + 2) ((w.alloc (.cells #[.string id, .int .i64 sz, .slice (some ⟨g, 0, none⟩) L.length cap, .int .i64 pl] 50)).alloc (.cells #[.int .u8 (sgAt L k).nm, .int .i64 (sgAt L k).st, .int .i64 (sgAt L k).ln, .bool (decide ((sgAt L k).od = 62)), .bool (decide ((sgAt L k).kd = 115)), .int .u8 (sgAt L k).rl, .int .i64 (sgAt L k).pl] 78)) w') (by kernel_rfl) (by exact (Below.drew (by assumption))) (fun hHeld => ?_)
                    refine wpAnyH_take (i := 0) (v := ?_) (at_list rfl) (by kernel_rfl) (by kernel_rfl) (by kernel_rfl) (fun _ _ _ h => h) (Or.inl ⟨by rfl, ?_⟩) (by assumption) ?_
                    rotate_left
                    · intro w hSw; (try dsimp only at hSw); first | (go_simp; done) | (go_simp; with_reducible rfl)
                    try simp only [Act.put]
                    try simp only [List.setIfInBounds_toArray]
                    try simp only [List.set_cons_succ]
                    try simp only [List.set_cons_zero]
                    refine wpAnyH_take (i := 1) (v := ?_) (at_list rfl) (by kernel_rfl) (by kernel_rfl) (by kernel_rfl) (fun _ _ _ h => h) (Or.inl ⟨by rfl, ?_⟩) (by assumption) ?_
                    rotate_left
                    · intro w hSw; (try dsimp only at hSw); first | (go_simp; done) | (go_simp; with_reducible rfl)
                    try simp only [Act.put]
                    try simp only [List.setIfInBounds_toArray]
                    try simp only [List.set_cons_succ]
                    try simp only [List.set_cons_zero]
                    refine wpAnyH_take (i := 2) (v := undef) (at_list rfl) (by kernel_rfl) (by kernel_rfl) (by kernel_rfl) (fun _ _ _ h => h) (Or.inr ⟨by rfl, rfl⟩) (by assumption) ?_
                    try simp only [Act.put]
                    try simp only [List.setIfInBounds_toArray]
                    try simp only [List.set_cons_succ]
                    try simp only [List.set_cons_zero]
                    refine wpAnyH_take (i := 3) (v := undef) (at_list rfl) (by kernel_rfl) (by kernel_rfl) (by kernel_rfl) (fun _ _ _ h => h) (Or.inr ⟨by rfl, rfl⟩) (by assumption) ?_
                    try simp only [Act.put]
                    try simp only [List.setIfInBounds_toArray]
                    try simp only [List.set_cons_succ]
                    try simp only [List.set_cons_zero]
                    refine wpAnyH_take (i := 4) (v := undef) (at_list rfl) (by kernel_rfl) (by kernel_rfl) (by kernel_rfl) (fun _ _ _ h => h) (Or.inr ⟨by rfl, rfl⟩) (by assumption) ?_
                    try simp only [Act.put]
                    try simp only [List.setIfInBounds_toArray]
                    try simp only [List.set_cons_succ]
                    try simp only [List.set_cons_zero]
                    refine wpAnyH_take (i := 5) (v := undef) (at_list rfl) (by kernel_rfl) (by kernel_rfl) (by kernel_rfl) (fun _ _ _ h => h) (Or.inr ⟨by rfl, rfl⟩) (by assumption) ?_
                    try simp only [Act.put]
                    try simp only [List.setIfInBounds_toArray]
                    try simp only [List.set_cons_succ]
                    try simp only [List.set_cons_zero]
                    refine wpAnyH_take (i := 6) (v := undef) (at_list rfl) (by kernel_rfl) (by kernel_rfl) (by kernel_rfl) (fun _ _ _ h => h) (Or.inr ⟨by rfl, rfl⟩) (by assumption) ?_
                    try simp only [Act.put]
                    try simp only [List.setIfInBounds_toArray]
                    try simp only [List.set_cons_succ]
                    try simp only [List.set_cons_zero]
                    refine wpAnyH_take (i := 7) (v := undef) (at_list rfl) (by kernel_rfl) (by kernel_rfl) (by kernel_rfl) (fun _ _ _ h => h) (Or.inr ⟨by rfl, rfl⟩) (by assumption) ?_
                    try simp only [Act.put]
                    try simp only [List.setIfInBounds_toArray]
                    try simp only [List.set_cons_succ]
                    try simp only [List.set_cons_zero]
                    refine wpAnyH_take (i := 8) (v := undef) (at_list rfl) (by kernel_rfl) (by kernel_rfl) (by kernel_rfl) (fun _ _ _ h => h) (Or.inr ⟨by rfl, rfl⟩) (by assumption) ?_
                    try simp only [Act.put]
                    try simp only [List.setIfInBounds_toArray]
                    try simp only [List.set_cons_succ]
                    try simp only [List.set_cons_zero]
                    refine wpAnyH_take (i := 9) (v := ?_) (at_list rfl) (by kernel_rfl) (by kernel_rfl) (by kernel_rfl) (fun _ _ _ h => h) (Or.inl ⟨by rfl, ?_⟩) (by assumption) ?_
                    rotate_left
                    · intro w hSw; (try dsimp only at hSw); first | (go_simp; done) | (go_simp; with_reducible rfl)
                    try simp only [Act.put]
                    try simp only [List.setIfInBounds_toArray]
                    try simp only [List.set_cons_succ]
                    try simp only [List.set_cons_zero]
                    refine wpAnyH_done (by kernel_rfl) ?_ _
                    refine NoPanic.normal ?_
                    clear cn hme
                    go_wp2
                    go_roundw
                    case rel => exact ⟨n + 1, by omega, by go_num, fun j hj => by
                        by_cases e : j = n
                        · subst e; rw [unhide HME]; rfl
                        · exact unhide HN3 j (by omega), by assumption⟩
                    case measure => simp [intOf]; omega
                  | true =>
                    have HME := hide (show meetB (sgAt L n).rl (sgAt L k).rl = true from hme)
                    cases hsh : shareB (sgAt L n) (sgAt L k) with
                    | false =>
                      go_wp2
                      refine wp_region_noPanic ?_
                      refine wp_region_held_drew (S := fun w' => Below (w.heap.size + 2) ((w.alloc (.cells #[.string id, .int .i64 sz, .slice (some ⟨g, 0, none⟩) L.length cap, .int .i64 pl] 50)).alloc (.cells #[.int .u8 (sgAt L k).nm, .int .i64 (sgAt L k).st, .int .i64 (sgAt L k).ln, .bool (decide ((sgAt L k).od = 62)), .bool (decide ((sgAt L k).kd = 115)), .int .u8 (sgAt L k).rl, .int .i64 (sgAt L k).pl] 78)) w') (by kernel_rfl) (by exact (Below.drew (by assumption))) (fun hHeld => ?_)
                      refine wpAnyH_take (i := 0) (v := ?_) (at_list rfl) (by kernel_rfl) (by kernel_rfl) (by kernel_rfl) (fun _ _ _ h => h) (Or.inl ⟨by rfl, ?_⟩) (by assumption) ?_
                      rotate_left
                      · intro w hSw; (try dsimp only at hSw); first | (go_simp; done) | (go_simp; with_reducible rfl)
                      try simp only [Act.put]
                      try simp only [List.setIfInBounds_toArray]
                      try simp only [List.set_cons_succ]
                      try simp only [List.set_cons_zero]
                      refine wpAnyH_take (i := 1) (v := ?_) (at_list rfl) (by kernel_rfl) (by kernel_rfl) (by kernel_rfl) (fun _ _ _ h => h) (Or.inl ⟨by rfl, ?_⟩) (by assumption) ?_
                      rotate_left
                      · intro w hSw; (try dsimp only at hSw); first | (go_simp; done) | (go_simp; with_reducible rfl)
                      try simp only [Act.put]
                      try simp only [List.setIfInBounds_toArray]
                      try simp only [List.set_cons_succ]
                      try simp only [List.set_cons_zero]
                      refine wpAnyH_take (i := 2) (v := ?_) (at_list rfl) (by kernel_rfl) (by kernel_rfl) (by kernel_rfl) (fun _ _ _ h => h) (Or.inl ⟨by rfl, ?_⟩) (by assumption) ?_
                      rotate_left
                      · intro w hSw; (try dsimp only at hSw); first | (go_simp; done) | (go_simp; with_reducible rfl)
                      try simp only [Act.put]
                      try simp only [List.setIfInBounds_toArray]
                      try simp only [List.set_cons_succ]
                      try simp only [List.set_cons_zero]
                      refine wpAnyH_take (i := 3) (v := ?_) (at_list rfl) (by kernel_rfl) (by kernel_rfl) (by kernel_rfl) (fun _ _ _ h => h) (Or.inl ⟨by rfl, ?_⟩) (by assumption) ?_
                      rotate_left
                      · intro w hSw; (try dsimp only at hSw); first | (go_simp; done) | (go_simp; with_reducible rfl)
                      try simp only [Act.put]
                      try simp only [List.setIfInBounds_toArray]
                      try simp only [List.set_cons_succ]
                      try simp only [List.set_cons_zero]
                      refine wpAnyH_take (i := 4) (v := ?_) (at_list rfl) (by kernel_rfl) (by kernel_rfl) (by kernel_rfl) (fun _ _ _ h => h) (Or.inl ⟨by rfl, ?_⟩) (by assumption) ?_
                      rotate_left
                      · intro w hSw; (try dsimp only at hSw); first | (go_simp; done) | (go_simp; with_reducible rfl)
                      try simp only [Act.put]
                      try simp only [List.setIfInBounds_toArray]
                      try simp only [List.set_cons_succ]
                      try simp only [List.set_cons_zero]
                      refine wpAnyH_take (i := 5) (v := ?_) (at_list rfl) (by kernel_rfl) (by kernel_rfl) (by kernel_rfl) (fun _ _ _ h => h) (Or.inl ⟨by rfl, ?_⟩) (by assumption) ?_
                      rotate_left
                      · intro w hSw; (try dsimp only at hSw); first | (go_simp; done) | (go_simp; with_reducible rfl)
                      try simp only [Act.put]
                      try simp only [List.setIfInBounds_toArray]
                      try simp only [List.set_cons_succ]
                      try simp only [List.set_cons_zero]
                      refine wpAnyH_take (i := 6) (v := ?_) (at_list rfl) (by kernel_rfl) (by kernel_rfl) (by kernel_rfl) (fun _ _ _ h => h) (Or.inl ⟨by rfl, ?_⟩) (by assumption) ?_
                      rotate_left
                      · intro w hSw; (try dsimp only at hSw); first | (go_simp; done) | (go_simp; with_reducible rfl)
                      try simp only [Act.put]
                      try simp only [List.setIfInBounds_toArray]
                      try simp only [List.set_cons_succ]
                      try simp only [List.set_cons_zero]
                      refine wpAnyH_take (i := 7) (v := ?_) (at_list rfl) (by kernel_rfl) (by kernel_rfl) (by kernel_rfl) (fun _ _ _ h => h) (Or.inl ⟨by rfl, ?_⟩) (by assumption) ?_
                      rotate_left
                      · intro w hSw; (try dsimp only at hSw); first | (go_simp; done) | (go_simp; with_reducible rfl)
                      try simp only [Act.put]
                      try simp only [List.setIfInBounds_toArray]
                      try simp only [List.set_cons_succ]
                      try simp only [List.set_cons_zero]
                      refine wpAnyH_ready (rs := [8]) (by kernel_rfl) (by simp) ?_
                      refine AllReadyH.cons (at_list rfl) (fun K hK => ?_) AllReadyH.nil
                      go_simp
                      refine (rShares_any (sgAt L n) (sgAt L k) _ (unhide OKn) (unhide OKi)).mono ?_; rintro e w4 ⟨rfl, hb4⟩; dsimp only
                      refine hK.out _ _ (box2_next hHeld hb4) (fun hHeld => ?_)
                      clear hK K
                      try simp only [Act.put]
                      try simp only [List.setIfInBounds_toArray]
                      try simp only [List.set_cons_succ]
                      try simp only [List.set_cons_zero]
                      refine wpAnyH_take (i := 9) (v := ?_) (at_list rfl) (by kernel_rfl) (by kernel_rfl) (by kernel_rfl) (fun _ _ _ h => h) (Or.inl ⟨by rfl, ?_⟩) (by assumption) ?_
                      rotate_left
                      · intro w hSw; (try dsimp only at hSw); first | (go_simp; done) | (go_simp; with_reducible rfl)
                      try simp only [Act.put]
                      try simp only [List.setIfInBounds_toArray]
                      try simp only [List.set_cons_succ]
                      try simp only [List.set_cons_zero]
                      refine wpAnyH_done (by kernel_rfl) ?_ _
                      refine NoPanic.normal ?_
                      have HSH := hide hsh
                      clear cn hme
                      go_wp2
                      go_roundw
                      case rel => exact ⟨n + 1, by omega, by go_num, fun j hj => by
                          by_cases e : j = n
                          · subst e; rw [unhide HSH]; simp
                          · exact unhide HN3 j (by omega), by assumption⟩
                      case measure => simp [intOf]; omega
                    | true =>
                      go_wp2
                      refine wp_region_noPanic ?_
                      refine wp_region_held_drew (S := fun w' => Below (w.heap.size + 2) ((w.alloc (.cells #[.string id, .int .i64 sz, .slice (some ⟨g, 0, none⟩) L.length cap, .int .i64 pl] 50)).alloc (.cells #[.int .u8 (sgAt L k).nm, .int .i64 (sgAt L k).st, .int .i64 (sgAt L k).ln, .bool (decide ((sgAt L k).od = 62)), .bool (decide ((sgAt L k).kd = 115)), .int .u8 (sgAt L k).rl, .int .i64 (sgAt L k).pl] 78)) w') (by kernel_rfl) (by exact (Below.drew (by assumption))) (fun hHeld => ?_)
                      refine wpAnyH_take (i := 0) (v := ?_) (at_list rfl) (by kernel_rfl) (by kernel_rfl) (by kernel_rfl) (fun _ _ _ h => h) (Or.inl ⟨by rfl, ?_⟩) (by assumption) ?_
                      rotate_left
                      · intro w hSw; (try dsimp only at hSw); first | (go_simp; done) | (go_simp; with_reducible rfl)
                      try simp only [Act.put]
                      try simp only [List.setIfInBounds_toArray]
                      try simp only [List.set_cons_succ]
                      try simp only [List.set_cons_zero]
                      refine wpAnyH_take (i := 1) (v := ?_) (at_list rfl) (by kernel_rfl) (by kernel_rfl) (by kernel_rfl) (fun _ _ _ h => h) (Or.inl ⟨by rfl, ?_⟩) (by assumption) ?_
                      rotate_left
                      · intro w hSw; (try dsimp only at hSw); first | (go_simp; done) | (go_simp; with_reducible rfl)
                      try simp only [Act.put]
                      try simp only [List.setIfInBounds_toArray]
                      try simp only [List.set_cons_succ]
                      try simp only [List.set_cons_zero]
                      refine wpAnyH_take (i := 2) (v := ?_) (at_list rfl) (by kernel_rfl) (by kernel_rfl) (by kernel_rfl) (fun _ _ _ h => h) (Or.inl ⟨by rfl, ?_⟩) (by assumption) ?_
                      rotate_left
                      · intro w hSw; (try dsimp only at hSw); first | (go_simp; done) | (go_simp; with_reducible rfl)
                      try simp only [Act.put]
                      try simp only [List.setIfInBounds_toArray]
                      try simp only [List.set_cons_succ]
                      try simp only [List.set_cons_zero]
                      refine wpAnyH_take (i := 3) (v := ?_) (at_list rfl) (by kernel_rfl) (by kernel_rfl) (by kernel_rfl) (fun _ _ _ h => h) (Or.inl ⟨by rfl, ?_⟩) (by assumption) ?_
                      rotate_left
                      · intro w hSw; (try dsimp only at hSw); first | (go_simp; done) | (go_simp; with_reducible rfl)
                      try simp only [Act.put]
                      try simp only [List.setIfInBounds_toArray]
                      try simp only [List.set_cons_succ]
                      try simp only [List.set_cons_zero]
                      refine wpAnyH_take (i := 4) (v := ?_) (at_list rfl) (by kernel_rfl) (by kernel_rfl) (by kernel_rfl) (fun _ _ _ h => h) (Or.inl ⟨by rfl, ?_⟩) (by assumption) ?_
                      rotate_left
                      · intro w hSw; (try dsimp only at hSw); first | (go_simp; done) | (go_simp; with_reducible rfl)
                      try simp only [Act.put]
                      try simp only [List.setIfInBounds_toArray]
                      try simp only [List.set_cons_succ]
                      try simp only [List.set_cons_zero]
                      refine wpAnyH_take (i := 5) (v := ?_) (at_list rfl) (by kernel_rfl) (by kernel_rfl) (by kernel_rfl) (fun _ _ _ h => h) (Or.inl ⟨by rfl, ?_⟩) (by assumption) ?_
                      rotate_left
                      · intro w hSw; (try dsimp only at hSw); first | (go_simp; done) | (go_simp; with_reducible rfl)
                      try simp only [Act.put]
                      try simp only [List.setIfInBounds_toArray]
                      try simp only [List.set_cons_succ]
                      try simp only [List.set_cons_zero]
                      refine wpAnyH_take (i := 6) (v := ?_) (at_list rfl) (by kernel_rfl) (by kernel_rfl) (by kernel_rfl) (fun _ _ _ h => h) (Or.inl ⟨by rfl, ?_⟩) (by assumption) ?_
                      rotate_left
                      · intro w hSw; (try dsimp only at hSw); first | (go_simp; done) | (go_simp; with_reducible rfl)
                      try simp only [Act.put]
                      try simp only [List.setIfInBounds_toArray]
                      try simp only [List.set_cons_succ]
                      try simp only [List.set_cons_zero]
                      refine wpAnyH_take (i := 7) (v := ?_) (at_list rfl) (by kernel_rfl) (by kernel_rfl) (by kernel_rfl) (fun _ _ _ h => h) (Or.inl ⟨by rfl, ?_⟩) (by assumption) ?_
                      rotate_left
                      · intro w hSw; (try dsimp only at hSw); first | (go_simp; done) | (go_simp; with_reducible rfl)
                      try simp only [Act.put]
                      try simp only [List.setIfInBounds_toArray]
                      try simp only [List.set_cons_succ]
                      try simp only [List.set_cons_zero]
                      refine wpAnyH_ready (rs := [8]) (by kernel_rfl) (by simp) ?_
                      refine AllReadyH.cons (at_list rfl) (fun K hK => ?_) AllReadyH.nil
                      go_simp
                      refine (rShares_any (sgAt L n) (sgAt L k) _ (unhide OKn) (unhide OKi)).mono ?_; rintro e w4 ⟨rfl, hb4⟩; dsimp only
                      refine hK.out _ _ (box2_next hHeld hb4) (fun hHeld => ?_)
                      clear hK K
                      try simp only [Act.put]
                      try simp only [List.setIfInBounds_toArray]
                      try simp only [List.set_cons_succ]
                      try simp only [List.set_cons_zero]
                      refine wpAnyH_take (i := 9) (v := ?_) (at_list rfl) (by kernel_rfl) (by kernel_rfl) (by kernel_rfl) (fun _ _ _ h => h) (Or.inl ⟨by rfl, ?_⟩) (by assumption) ?_
                      rotate_left
                      · intro w hSw; (try dsimp only at hSw); first | (go_simp; done) | (go_simp; with_reducible rfl)
                      try simp only [Act.put]
                      try simp only [List.setIfInBounds_toArray]
                      try simp only [List.set_cons_succ]
                      try simp only [List.set_cons_zero]
                      refine wpAnyH_done (by kernel_rfl) ?_ _
                      refine NoPanic.normal ?_
                      have HSH := hide hsh
                      clear cn hme
                      go_wp2
                      go_ret
                      exact ⟨ret_int (by rw [errR, if_neg (by rw [unhide Q1]; simp), if_neg (unhide Q2), if_neg (by rw [unhide Q4]; simp), if_pos (anyIx_is (unhide HN3) hlt3 (by rw [unhide HME, unhide HSH]; rfl))]), box2_below (by assumption)⟩
                · have hnk : n = k := by omega
                  go_wp2
                  go_ret
                  exact ⟨ret_int (by rw [errR, if_neg (by rw [unhide Q1]; simp), if_neg (unhide Q2), if_neg (by rw [unhide Q4]; simp), if_neg (by rw [anyIx_none (fun j hj => unhide HN3 j (by omega))]; simp)]), box2_below hb⟩

end Go.Proofs.Ytoihlnjcgopdlab

namespace Go.Proofs.Ytoihlnjcgopdlab
open Go.RowKit

/-- A message of the text. -/
structure Mg where
  pl : Nat
  id : ByteArray
  sz : Int
  sigs : List Sg

def mkMsg (s : ByteArray) (i : Nat) (l : List Sg) : Mg := ⟨i, s.extract i (i + 3), bt s (i + 3) - 48, l⟩

/-- The signals from i on, f at the most: where it cannot go on, or they and where they end. -/
def pSigs (s : ByteArray) : Nat → Nat → Nat ⊕ (List Sg × Nat)
  | 0, i => .inr ([], i)
  | f + 1, i =>
    if i < s.size ∧ bt s i = 44 then
      if nSig s i < 9 then .inl (i + nSig s i) else
      match pSigs s f (i + 9) with
      | .inl p => .inl p
      | .inr (l, e) => .inr (mkSig s i :: l, e)
    else .inr ([], i)

def glue (acc : List Sg) : Nat ⊕ (List Sg × Nat) → Nat ⊕ (List Sg × Nat)
  | .inl p => .inl p
  | .inr (l, e) => .inr (acc ++ l, e)

theorem glue_nil (x : Nat ⊕ (List Sg × Nat)) : glue [] x = x := by
  rcases x with p | ⟨l, e⟩ <;> rfl

theorem glue_stop {s : ByteArray} {acc : List Sg} {f i : Nat} (h : f = 0 ∨ ¬ (i < s.size ∧ bt s i = 44)) : glue acc (pSigs s f i) = .inr (acc, i) := by
  cases f with
  | zero => simp [pSigs, glue]
  | succ f =>
    rw [pSigs, if_neg (by rcases h with h | h; omega; exact h)]
    simp [glue]

theorem glue_bad {s : ByteArray} {acc : List Sg} {f i : Nat} (hf : 0 < f) (h : i < s.size ∧ bt s i = 44) (hn : nSig s i < 9) : glue acc (pSigs s f i) = .inl (i + nSig s i) := by
  obtain ⟨f, rfl⟩ : ∃ k, f = k + 1 := ⟨f - 1, by omega⟩
  rw [pSigs, if_pos h, if_pos hn]; rfl

theorem glue_step {s : ByteArray} {acc : List Sg} {f i : Nat} (hf : 0 < f) (h : i < s.size ∧ bt s i = 44) (hn : ¬ nSig s i < 9) : glue acc (pSigs s f i) = glue (acc ++ [mkSig s i]) (pSigs s (f - 1) (i + 9)) := by
  obtain ⟨f, rfl⟩ : ∃ k, f = k + 1 := ⟨f - 1, by omega⟩
  rw [pSigs, if_pos h, if_neg hn]
  simp only [Nat.add_sub_cancel]
  rcases pSigs s f (i + 9) with p | ⟨l, e⟩ <;> simp [glue]

/-- The message at i. -/
def pMsg (s : ByteArray) (i : Nat) : Nat ⊕ (Mg × Nat) :=
  if nHead s i < 4 then .inl (i + nHead s i) else
  match pSigs s 8 (i + 4) with
  | .inl p => .inl p
  | .inr (l, e) => .inr (mkMsg s i l, e)

/-- The messages from i on, f at the most. -/
def pDb (s : ByteArray) : Nat → Nat → Nat ⊕ (List Mg)
  | 0, i => .inl (i - 1)
  | f + 1, i =>
    match pMsg s i with
    | .inl p => .inl p
    | .inr (m, e) =>
      if s.size ≤ e then .inr [m] else
      if bt s e = 59 then
        match pDb s f (e + 1) with
        | .inl p => .inl p
        | .inr l => .inr (m :: l)
      else .inl e

def glueM (acc : List Mg) : Nat ⊕ (List Mg) → Nat ⊕ (List Mg)
  | .inl p => .inl p
  | .inr l => .inr (acc ++ l)

theorem nSig_full {s : ByteArray} {i : Nat} (h : ¬ nSig s i < 9) : ∀ j, j < 9 → i + j < s.size ∧ sigB j (befB s i j) (bt s (i + j)) = true := by
  refine nSig_ok (fun j hj => ?_)
  have h9 : nSig s i = 9 := by have := firstIx_le (fun k => !sigOk s i k) 9; unfold nSig at h ⊢; omega
  have := firstIx_no (fun k => !sigOk s i k) 9 j (by unfold nSig at h9; omega)
  simpa using this

theorem nHead_full {s : ByteArray} {i : Nat} (h : ¬ nHead s i < 4) : ∀ j, j < 4 → i + j < s.size ∧ headB j (bt s (i + j)) = true := by
  intro j hj
  have h9 : nHead s i = 4 := by have := firstIx_le (fun k => !headOk s i k) 4; unfold nHead at h ⊢; omega
  have := firstIx_no (fun k => !headOk s i k) 4 j (by unfold nHead at h9; omega)
  simpa [headOk] using this

theorem dig_worth {a : Int} (h0 : 48 ≤ a) (h1 : a ≤ 57) : worth a = a - 48 := by rw [worth, if_neg (by omega)]

/-- A signal that has been read is within its bounds. -/
theorem mkSig_ok {s : ByteArray} {i : Nat} (h : ¬ nSig s i < 9) : (mkSig s i).Ok := by
  have hall := nSig_full h
  have d2 := (hall 2 (by omega)).2
  have d3 := (hall 3 (by omega)).2
  have d4 := (hall 4 (by omega)).2
  have d5 := (hall 5 (by omega)).2
  have d6 := (hall 6 (by omega)).2
  have d7 := (hall 7 (by omega)).2
  simp only [befB] at d2 d3 d4 d5 d6 d7
  simp [sigB, isDigB] at d2 d3 d4 d5 d6 d7
  have w2 := dig_worth (a := bt s (i + 2)) (by omega) (by omega)
  have w3 := dig_worth (a := bt s (i + 3)) (by omega) (by omega)
  have w4 := dig_worth (a := bt s (i + 4)) (by omega) (by omega)
  have w5 := dig_worth (a := bt s (i + 5)) (by omega) (by omega)
  refine ⟨?_, ?_, ?_, ?_, ?_, ?_⟩ <;> simp only [mkSig] <;> omega

theorem pSigs_ok (s : ByteArray) : ∀ (f i : Nat) (l : List Sg) (e : Nat), pSigs s f i = .inr (l, e) → l.length ≤ f ∧ (∀ x ∈ l, x.Ok) ∧ i ≤ e ∧ (i ≤ s.size → e ≤ s.size) := by
  intro f
  induction f with
  | zero => intro i l e h; simp [pSigs] at h; obtain ⟨rfl, rfl⟩ := h; simp
  | succ f ih =>
    intro i l e h
    rw [pSigs] at h
    split at h
    · split at h
      · simp at h
      · rename_i hn
        cases hp : pSigs s f (i + 9) with
        | inl p => rw [hp] at h; simp at h
        | inr x =>
          obtain ⟨l', e'⟩ := x
          rw [hp] at h
          simp at h
          obtain ⟨rfl, rfl⟩ := h
          obtain ⟨h1, h2, h3, h4⟩ := ih _ _ _ hp
          have hz := (nSig_full hn 8 (by omega)).1
          refine ⟨by simpa using h1, ?_, by omega, fun _ => h4 (by omega)⟩
          intro x hx
          rcases List.mem_cons.1 hx with rfl | hx
          · exact mkSig_ok hn
          · exact h2 x hx
    · simp at h; obtain ⟨rfl, rfl⟩ := h; simp

/-- A message that has been read is within its bounds. -/
structure Mg.Ok (m : Mg) : Prop where
  sz0 : 0 ≤ m.sz
  sz1 : m.sz ≤ 8
  len : m.sigs.length ≤ 8
  ok : ∀ x ∈ m.sigs, x.Ok
  id : m.id.size = 3
  good : idBad m.id = false

theorem bt_of_ge {s : ByteArray} {k : Nat} (h : ¬ k < s.size) : bt s k = 0 := by rw [bt, dif_neg h]

theorem idBad_extract {s : ByteArray} {i : Nat} (h : ¬ nHead s i < 4) : (s.extract i (i + 3)).size = 3 ∧ idBad (s.extract i (i + 3)) = false := by
  have hall := nHead_full h
  have h3 := (hall 3 (by omega)).1
  refine ⟨by rw [ByteArray.size_extract]; omega, ?_⟩
  refine anyIx_none (fun j hj => ?_)
  rw [bt_extract s i 3 j hj (by omega), (hall j (by omega)).2]; rfl

theorem mkMsg_ok {s : ByteArray} {i : Nat} {l : List Sg} {e : Nat} (h : ¬ nHead s i < 4) (hp : pSigs s 8 (i + 4) = .inr (l, e)) : (mkMsg s i l).Ok := by
  obtain ⟨h1, h2, _, _⟩ := pSigs_ok s 8 _ _ _ hp
  have h3 := (nHead_full h 3 (by omega)).2
  simp [headB] at h3
  obtain ⟨e1, e2⟩ := idBad_extract h
  exact ⟨by simp only [mkMsg]; omega, by simp only [mkMsg]; omega, h1, h2, e1, e2⟩

theorem pMsg_ok {s : ByteArray} {i : Nat} {m : Mg} {e : Nat} (h : pMsg s i = .inr (m, e)) : m.Ok ∧ i < e ∧ e ≤ s.size := by
  rw [pMsg] at h
  split at h
  · simp at h
  · rename_i hn
    cases hp : pSigs s 8 (i + 4) with
    | inl p => rw [hp] at h; simp at h
    | inr x =>
      obtain ⟨l, e'⟩ := x
      rw [hp] at h
      simp at h
      obtain ⟨rfl, rfl⟩ := h
      obtain ⟨_, _, h3, h4⟩ := pSigs_ok s 8 _ _ _ hp
      have := (nHead_full hn 3 (by omega)).1
      exact ⟨mkMsg_ok hn hp, by omega, h4 (by omega)⟩

end Go.Proofs.Ytoihlnjcgopdlab
