import Derived.Test.YtljodhcfimklkabB
namespace Go.Proofs.Ytljodhcfimklkab
open Go.RowKit

/-- A signal of the text. -/
structure Sg where
  pl : Int
  nm : Int
  st : Int
  ln : Int
  od : Int
  kd : Int
  rl : Int

/-- What a reader makes of a signal is within these bounds. -/
structure Sg.Ok (s : Sg) : Prop where
  st0 : 0 ≤ s.st
  st1 : s.st ≤ 63
  ln0 : 1 ≤ s.ln
  ln1 : s.ln ≤ 32
  od : s.od = 60 ∨ s.od = 62
  kd : s.kd = 117 ∨ s.kd = 115

/-- The program's cells of it, and the document's. -/
def Sg.cells (s : Sg) : List Value := [.int .i64 s.pl, .int .u8 s.nm, .int .i64 s.st, .int .i64 s.ln, .int .u8 s.od, .int .u8 s.kd, .int .u8 s.rl]
def Sg.rcells (s : Sg) : List Value := [.int .u8 s.nm, .int .i64 s.st, .int .i64 s.ln, .bool (decide (s.od = 62)), .bool (decide (s.kd = 115)), .int .u8 s.rl, .int .i64 s.pl]

/-- Where bit i of a signal lies. -/
def place (st ln od i : Int) : Int := if od = 60 then st + i else mir (mir st + ln - 1 - i)

set_option maxHeartbeats 400000 in
theorem bitPlace_any (a0 a1 st ln od a5 a6 i : Int) (w : World) (h0 : 0 ≤ st) (h1 : st ≤ 63) (h2 : 1 ≤ ln) (h3 : ln ≤ 32) (h4 : od = 60 ∨ od = 62) (h5 : 0 ≤ i) (h6 : i < ln) :
    Calls Try.prog 46 #[.agg #[.int .i64 a0, .int .u8 a1, .int .i64 st, .int .i64 ln, .int .u8 od, .int .u8 a5, .int .u8 a6], .int .i64 i] w
      fun e w' => e = .returned (.int .i64 (place st ln od i)) ∧ Below w.heap.size w w' := by
  rcases h4 with rfl | rfl
  · go_enter Try.func46, Try.ntmps46
    go_wp2
    go_ret
    exact ⟨ret_int (by simp [place]), (Below.refl _ _).alloc (Nat.le_refl _) _⟩
  · have hm : 0 ≤ mir st ∧ mir st ≤ 63 := by unfold mir; omega
    obtain ⟨hm0, hm1⟩ := hm
    go_enter Try.func46, Try.ntmps46
    go_wp2_with (go_at_call 52; refine (mirrored_any _ _ (by omega) (by omega)).mono ?_; rintro e w' ⟨rfl, rfl⟩)
    go_ret
    exact ⟨ret_int (by simp [place]), (Below.refl _ _).alloc (Nat.le_refl _) _⟩

theorem mir_step (p n : Int) : (if mir (mir p + n) % 8 = 0 then mir (mir p + n) + 15 else mir (mir p + n) - 1) = mir (mir p + (n + 1)) := by
  unfold mir
  split <;> omega

theorem mir_mir (p : Int) : mir (mir p) = p := by unfold mir; omega

set_option maxHeartbeats 1000000 in
theorem rBit_any (a0 st ln a5 a6 i : Int) (od kd : Int) (w : World) (h0 : 0 ≤ st) (h1 : st ≤ 63) (h2 : 1 ≤ ln) (h3 : ln ≤ 32) (h4 : od = 60 ∨ od = 62) (h5 : 0 ≤ i) (h6 : i < ln) :
    Calls Try.prog 23 #[.agg #[.int .u8 a0, .int .i64 st, .int .i64 ln, .bool (decide (od = 62)), .bool (decide (kd = 115)), .int .u8 a5, .int .i64 a6], .int .i64 i] w
      fun e w' => e = .returned (.int .i64 (place st ln od i)) ∧ Below w.heap.size w w' := by
  generalize decide (kd = 115) = kb
  rcases h4 with rfl | rfl
  · go_enter Try.func23, Try.ntmps23
    go_wp2
    go_ret
    exact ⟨ret_int (by simp [place]), (Below.refl _ _).alloc (Nat.le_refl _) _⟩
  · go_enter Try.func23, Try.ntmps23
    go_wp2
    go_loop [5, 6] (fun t k => ∃ n : Nat, (n : Int) ≤ ln - 1 - i ∧ k = .int .i64 (ln - 1 - n) ∧ t = .int .i64 (mir (mir st + n))) (fun _ k => (intOf k).toNat)
    case atStart => exact ⟨0, by omega, by simp, by simp [mir_mir st]⟩
    case round =>
      obtain ⟨n, hn, rfl, rfl⟩ := hrel
      have HS : Hid (_ = _) := mir_step st n
      have hb : 0 ≤ mir (mir st + n) ∧ mir (mir st + n) ≤ 200 := by unfold mir; omega
      obtain ⟨hb0, hb1⟩ := hb
      by_cases hlt : i < ln - 1 - n
      · by_cases hz : mir (mir st + n) % 8 = 0
        · go_wp2
          go_round
          case rel => exact ⟨n + 1, by omega, by go_num, by have := HS.out; rw [if_pos hz] at this; rw [this]; go_num⟩
          case measure => simp [intOf]; omega
        · go_wp2
          go_round
          case rel => exact ⟨n + 1, by omega, by go_num, by have := HS.out; rw [if_neg hz] at this; rw [this]; go_num⟩
          case measure => simp [intOf]; omega
      · have he : (n : Int) = ln - 1 - i := by omega
        go_wp2
        go_ret
        exact ⟨ret_int (by simp only [place]; rw [if_neg (by omega)]; congr 1; omega), (Below.refl _ _).alloc (Nat.le_refl _) _⟩

end Go.Proofs.Ytljodhcfimklkab
