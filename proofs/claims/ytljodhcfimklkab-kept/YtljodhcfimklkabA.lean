import Derived.Test.YtljodhcfimklkabProg
import Derived.WalkKit
import Derived.WalkSpells
import Derived.WalkLawsBesides
namespace Go.Proofs.Ytljodhcfimklkab
open Go.RowKit

theorem ret_bool {a b : Bool} (h : a = b) : Ending.returned (.bool a) = .returned (.bool b) := by rw [h]
theorem ret_int {k : IntKind} {a b : Int} (h : a = b) : Ending.returned (.int k a) = .returned (.int k b) := by rw [h]

/-- A digit. -/
def isDigB (c : Int) : Bool := decide (48 ≤ c) && decide (c ≤ 57)
def isHexB (c : Int) : Bool := isDigB c || (decide (65 ≤ c) && decide (c ≤ 70))
/-- May c stand at place i of an id and a size? -/
def headB (i : Int) (c : Int) : Bool :=
  if i = 0 then decide (48 ≤ c) && decide (c ≤ 55) else if i = 3 then decide (48 ≤ c) && decide (c ≤ 56) else isHexB c
/-- May c stand at place i of a signal, behind p? -/
def sigB (i p c : Int) : Bool :=
  if i = 0 then decide (c = 44) else
  if i = 1 then decide (97 ≤ c) && decide (c ≤ 122) else
  if i = 2 then decide (48 ≤ c) && decide (c ≤ 54) else
  if i = 3 then isDigB c && (decide (p ≠ 54) || decide (c ≤ 51)) else
  if i = 4 then decide (48 ≤ c) && decide (c ≤ 51) else
  if i = 5 then isDigB c && (decide (p ≠ 48) || decide (49 ≤ c)) && (decide (p ≠ 51) || decide (c ≤ 50)) else
  if i = 6 then decide (c = 60) || decide (c = 62) else
  if i = 7 then decide (c = 117) || decide (c = 115) else
  decide (c = 45) || decide (c = 77) || isDigB c

set_option maxHeartbeats 400000 in
theorem isDigit_any (c : Int) (w : World) :
    Calls Try.prog 45 #[.int .u8 c] w fun e w' => e = .returned (.bool (isDigB c)) ∧ w' = w := by
  go_enter Try.func45, Try.ntmps45
  go_wp2
  all_goals (go_ret; exact ⟨ret_bool (by rw [Bool.eq_iff_iff]; simp [isDigB]; try omega), rfl⟩)

set_option maxHeartbeats 400000 in
theorem rIsDigit_any (c : Int) (w : World) :
    Calls Try.prog 40 #[.int .u8 c] w fun e w' => e = .returned (.bool (isDigB c)) ∧ w' = w := by
  go_enter Try.func40, Try.ntmps40
  go_wp2
  all_goals (go_ret; exact ⟨ret_bool (by rw [Bool.eq_iff_iff]; simp [isDigB]; try omega), rfl⟩)

set_option maxHeartbeats 400000 in
theorem headAllows_any (i c : Int) (w : World) (h0 : 0 ≤ i) (h1 : i ≤ 3) :
    Calls Try.prog 43 #[.int .i64 i, .int .u8 c] w fun e w' => e = .returned (.bool (headB i c)) ∧ w' = w := by
  obtain rfl | rfl | rfl | rfl : i = 0 ∨ i = 1 ∨ i = 2 ∨ i = 3 := by omega
  all_goals
    go_enter Try.func43, Try.ntmps43
    go_wp2
    all_goals (go_ret; exact ⟨ret_bool (by rw [Bool.eq_iff_iff]; simp [headB, isHexB, isDigB]; try omega), rfl⟩)

set_option maxHeartbeats 400000 in
theorem rIsHex_any (c : Int) (w : World) :
    Calls Try.prog 59 #[.int .u8 c] w fun e w' => e = .returned (.bool (isHexB c)) ∧ w' = w := by
  go_enter Try.func59, Try.ntmps59
  go_wp2
  all_goals (go_ret; exact ⟨ret_bool (by rw [Bool.eq_iff_iff]; simp [isHexB, isDigB]; try omega), rfl⟩)

set_option maxHeartbeats 400000 in
theorem rHeaded_any (i c : Int) (w : World) (h0 : 0 ≤ i) (h1 : i ≤ 3) :
    Calls Try.prog 53 #[.int .i64 i, .int .u8 c] w fun e w' => e = .returned (.bool (headB i c)) ∧ w' = w := by
  obtain rfl | rfl | rfl | rfl : i = 0 ∨ i = 1 ∨ i = 2 ∨ i = 3 := by omega
  all_goals
    go_enter Try.func53, Try.ntmps53
    go_wp2
    all_goals (go_ret; exact ⟨ret_bool (by rw [Bool.eq_iff_iff]; simp [headB, isHexB, isDigB]; try omega), rfl⟩)

set_option maxHeartbeats 1000000 in
theorem signalAllows_any (i p c : Int) (w : World) (h0 : 0 ≤ i) (h1 : i ≤ 8) :
    Calls Try.prog 62 #[.int .i64 i, .int .u8 p, .int .u8 c] w fun e w' => e = .returned (.bool (sigB i p c)) ∧ w' = w := by
  obtain rfl | rfl | rfl | rfl | rfl | rfl | rfl | rfl | rfl : i = 0 ∨ i = 1 ∨ i = 2 ∨ i = 3 ∨ i = 4 ∨ i = 5 ∨ i = 6 ∨ i = 7 ∨ i = 8 := by omega
  all_goals
    go_enter Try.func62, Try.ntmps62
    go_wp2
    all_goals (go_ret; exact ⟨ret_bool (by rw [Bool.eq_iff_iff]; simp_all [sigB, isDigB]; try omega), rfl⟩)

end Go.Proofs.Ytljodhcfimklkab
