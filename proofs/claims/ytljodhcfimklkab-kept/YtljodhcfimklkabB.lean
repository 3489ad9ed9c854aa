import Derived.Test.YtljodhcfimklkabA
namespace Go.Proofs.Ytljodhcfimklkab
open Go.RowKit

set_option maxHeartbeats 1000000 in
theorem rSigned_any (i p c : Int) (w : World) (h0 : 0 ≤ i) (h1 : i ≤ 8) :
    Calls Try.prog 60 #[.int .i64 i, .int .u8 p, .int .u8 c] w fun e w' => e = .returned (.bool (sigB i p c)) ∧ w' = w := by
  obtain rfl | rfl | rfl | rfl | rfl | rfl | rfl | rfl | rfl : i = 0 ∨ i = 1 ∨ i = 2 ∨ i = 3 ∨ i = 4 ∨ i = 5 ∨ i = 6 ∨ i = 7 ∨ i = 8 := by omega
  all_goals
    go_enter Try.func60, Try.ntmps60
    go_wp2
    all_goals (go_ret; exact ⟨ret_bool (by rw [Bool.eq_iff_iff]; simp_all [sigB, isDigB]; try omega), rfl⟩)

/-- The worth of a digit of base 16. -/
def worth (c : Int) : Int := if 65 ≤ c then c - 55 else c - 48

set_option maxHeartbeats 400000 in
theorem digitWorth_any (c : Int) (w : World) (h0 : 0 ≤ c) (h1 : c ≤ 255) :
    Calls Try.prog 44 #[.int .u8 c] w fun e w' => e = .returned (.int .i64 (worth c)) ∧ w' = w := by
  by_cases h : 65 ≤ c
  all_goals
    go_enter Try.func44, Try.ntmps44
    go_wp2
    all_goals (go_ret; exact ⟨ret_int (by simp [worth, h]; try omega), rfl⟩)

set_option maxHeartbeats 400000 in
theorem rPair_any (a b : Int) (w : World) (h0 : 48 ≤ a) (h1 : a ≤ 57) (h2 : 48 ≤ b) (h3 : b ≤ 57) :
    Calls Try.prog 61 #[.int .u8 a, .int .u8 b] w fun e w' => e = .returned (.int .i64 (10 * worth a + worth b)) ∧ w' = w := by
  go_enter Try.func61, Try.ntmps61
  go_wp2
  all_goals (go_ret; exact ⟨ret_int (by rw [worth, worth, if_neg (by omega), if_neg (by omega)]; simp; try omega), rfl⟩)

/-- The place as far from its byte's high end as p is from the low one. -/
def mir (p : Int) : Int := p - p % 8 + 7 - p % 8

set_option maxHeartbeats 400000 in
theorem mirrored_any (p : Int) (w : World) (h0 : 0 ≤ p) (h1 : p ≤ 1000) :
    Calls Try.prog 52 #[.int .i64 p] w fun e w' => e = .returned (.int .i64 (mir p)) ∧ w' = w := by
  go_enter Try.func52, Try.ntmps52
  go_wp2
  all_goals (go_ret; exact ⟨ret_int (by simp [mir]; try omega), rfl⟩)

end Go.Proofs.Ytljodhcfimklkab
