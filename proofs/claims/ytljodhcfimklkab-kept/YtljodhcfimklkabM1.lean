import Derived.Test.YtljodhcfimklkabV0
import Derived.Test.YtljodhcfimklkabE
namespace Go.Proofs.Ytljodhcfimklkab
open Go.RowKit

/-- An instruction. -/
structure Ins where
  op : Int
  r : Int
  b : Int
  k : Int
  n : Int

def insAt (s : ByteArray) (i : Nat) : Ins := ⟨bt s (5 * i), bt s (5 * i + 1), bt s (5 * i + 2), bt s (5 * i + 3), bt s (5 * i + 4)⟩

/-- Its numbers are bytes. -/
structure Ins.Byt (x : Ins) : Prop where
  op0 : 0 ≤ x.op
  op1 : x.op ≤ 255
  r0 : 0 ≤ x.r
  r1 : x.r ≤ 255
  b0 : 0 ≤ x.b
  b1 : x.b ≤ 255
  k0 : 0 ≤ x.k
  k1 : x.k ≤ 255
  n0 : 0 ≤ x.n
  n1 : x.n ≤ 255
theorem insAt_byt (s : ByteArray) (i : Nat) : (insAt s i).Byt := ⟨bt_lo _ _, bt_hi _ _, bt_lo _ _, bt_hi _ _, bt_lo _ _, bt_hi _ _, bt_lo _ _, bt_hi _ _, bt_lo _ _, bt_hi _ _⟩

/-- P7: does it hold, with so many others behind it? -/
def knownB (x : Ins) (left : Int) : Bool :=
  if 8 ≤ x.r then false else if x.op ≠ 65 ∧ x.n < 1 then false else
  if x.op = 71 ∨ x.op = 80 then decide (x.b ≤ 63 ∧ x.b % 8 + x.n ≤ 8 ∧ x.k + x.n ≤ 32)
  else if x.op = 88 then decide (x.n ≤ 32)
  else if x.op = 82 then decide (x.n ≤ 32 ∧ x.k ≤ 1)
  else if x.op = 74 then decide (x.n ≤ left)
  else decide (x.op = 65)

theorem known_mono {x : Ins} {l m : Int} (h : knownB x l = true) (hlm : l ≤ m) : knownB x m = true := by
  unfold knownB at h ⊢
  split at h
  · cases h
  · rename_i h1
    rw [if_neg h1]
    split at h
    · cases h
    · rename_i h2
      rw [if_neg h2]
      split at h
      · rename_i h3; rw [if_pos h3]; exact h
      · rename_i h3
        rw [if_neg h3]
        split at h
        · rename_i h4; rw [if_pos h4]; exact h
        · rename_i h4
          rw [if_neg h4]
          split at h
          · rename_i h5; rw [if_pos h5]; exact h
          · rename_i h5
            rw [if_neg h5]
            split at h
            · rename_i h6; rw [if_pos h6]; simp at h ⊢; omega
            · rename_i h6; rw [if_neg h6]; exact h

theorem known_all {x : Ins} {l : Int} (h : knownB x l = true) : x.r ≤ 7 ∧ (x.op = 65 ∨ 1 ≤ x.n) ∧ ((x.op = 71 ∨ x.op = 80) ∧ x.b ≤ 63 ∧ x.b % 8 + x.n ≤ 8 ∧ x.k + x.n ≤ 32 ∨ x.op = 88 ∧ x.n ≤ 32 ∨ x.op = 82 ∧ x.n ≤ 32 ∧ x.k ≤ 1 ∨ x.op = 74 ∧ x.n ≤ l ∨ x.op = 65) := by
  unfold knownB at h
  split at h
  · cases h
  · split at h
    · cases h
    · split at h
      · simp only [decide_eq_true_eq] at h; exact ⟨by omega, by omega, by omega⟩
      · split at h
        · simp only [decide_eq_true_eq] at h; exact ⟨by omega, by omega, by omega⟩
        · split at h
          · simp only [decide_eq_true_eq] at h; exact ⟨by omega, by omega, by omega⟩
          · split at h
            · simp only [decide_eq_true_eq] at h; exact ⟨by omega, by omega, by omega⟩
            · simp only [decide_eq_true_eq] at h; exact ⟨by omega, by omega, by omega⟩
theorem known_of {x : Ins} {l : Int} (h : x.r ≤ 7 ∧ (x.op = 65 ∨ 1 ≤ x.n) ∧ ((x.op = 71 ∨ x.op = 80) ∧ x.b ≤ 63 ∧ x.b % 8 + x.n ≤ 8 ∧ x.k + x.n ≤ 32 ∨ x.op = 88 ∧ x.n ≤ 32 ∨ x.op = 82 ∧ x.n ≤ 32 ∧ x.k ≤ 1 ∨ x.op = 74 ∧ x.n ≤ l ∨ x.op = 65)) : knownB x l = true := by
  obtain ⟨h1, h2, h3⟩ := h
  unfold knownB
  rw [if_neg (by omega), if_neg (by omega)]
  rcases h3 with ⟨h, h3⟩ | ⟨h, h3⟩ | ⟨h, h3⟩ | ⟨h, h3⟩ | h
  · rw [if_pos h]; simpa using h3
  · rw [if_neg (by omega), if_pos h]; simpa using h3
  · rw [if_neg (by omega), if_neg (by omega), if_pos h]; simpa using h3
  · rw [if_neg (by omega), if_neg (by omega), if_neg (by omega), if_pos h]; simpa using h3
  · rw [if_neg (by omega), if_neg (by omega), if_neg (by omega), if_neg (by omega)]; simpa using h
theorem known_r {x : Ins} {l : Int} (h : knownB x l = true) : x.r ≤ 7 := (known_all h).1
theorem known_move {x : Ins} {l : Int} (h : knownB x l = true) (ho : x.op = 71 ∨ x.op = 80) : 1 ≤ x.n ∧ x.b ≤ 63 ∧ x.b % 8 + x.n ≤ 8 ∧ x.k + x.n ≤ 32 := by
  have := known_all h; omega
theorem known_x {x : Ins} {l : Int} (h : knownB x l = true) (ho : x.op = 88) : 1 ≤ x.n ∧ x.n ≤ 32 := by
  have := known_all h; omega
theorem known_range {x : Ins} {l : Int} (h : knownB x l = true) (ho : x.op = 82) : 1 ≤ x.n ∧ x.n ≤ 32 ∧ x.k ≤ 1 := by
  have := known_all h; omega
theorem known_jump {x : Ins} {l : Int} (h : knownB x l = true) (ho : x.op = 74) : 1 ≤ x.n ∧ x.n ≤ l := by
  have := known_all h; omega
theorem known_op {x : Ins} {l : Int} (h : knownB x l = true) : x.op = 71 ∨ x.op = 80 ∨ x.op = 88 ∨ x.op = 82 ∨ x.op = 74 ∨ x.op = 65 := by
  have := known_all h; omega

/-- Bit q becomes c. -/
def setb (N q : Nat) (c : Bool) : Nat := if N.testBit q = c then N else N ^^^ 2 ^ q
theorem setb_test (N q : Nat) (c : Bool) (i : Nat) : (setb N q c).testBit i = if i = q then c else N.testBit i := by
  unfold setb
  split
  · rename_i h; split
    · rename_i e; subst e; exact h
    · rfl
  · rename_i h
    rw [Nat.testBit_xor, Nat.testBit_two_pow]
    split
    · rename_i e; subst e
      cases c <;> cases hb : N.testBit i <;> simp_all
    · rename_i e
      have : ¬ q = i := fun h => e h.symm
      simp [this]
theorem setb_lt {N q n : Nat} (c : Bool) (h : N < 2 ^ n) (hq : q < n) : setb N q c < 2 ^ n := by
  unfold setb
  split
  · exact h
  · exact Nat.xor_lt_two_pow h (Nat.pow_lt_pow_right (by omega) hq)
theorem setb_add {x q : Nat} (h : x < 2 ^ q) (c : Bool) : setb x q c = x + c.toNat * 2 ^ q := by
  have hx : x.testBit q = false := Nat.testBit_lt_two_pow h
  cases c with
  | false => simp [setb, hx]
  | true =>
    rw [Bool.toNat_true, Nat.one_mul]
    have e : x + 2 ^ q = 2 ^ q ||| x := by
      have := Nat.two_pow_add_eq_or_of_lt h 1
      rw [Nat.mul_one] at this
      omega
    rw [e]
    apply Nat.eq_of_testBit_eq
    intro i
    rw [setb_test, Nat.testBit_or, Nat.testBit_two_pow]
    split
    · rename_i e; subst e; simp
    · rename_i e
      have : ¬ q = i := fun h => e h.symm
      simp [this]

/-- For j below n: bit k + j of x is laid into bit b + j of N. -/
def putTo (N x b k : Nat) : Nat → Nat
  | 0 => N
  | j + 1 => setb (putTo N x b k j) (b + j) (x.testBit (k + j))
theorem putTo_test (N x b k n q : Nat) : (putTo N x b k n).testBit q = if b ≤ q ∧ q < b + n then x.testBit (k + (q - b)) else N.testBit q := by
  induction n with
  | zero => rw [putTo, if_neg (by omega)]
  | succ n ih =>
    rw [putTo, setb_test, ih]
    by_cases e : q = b + n
    · rw [if_pos e, if_pos (by omega), e, Nat.add_sub_cancel_left]
    · rw [if_neg e]
      by_cases h : b ≤ q ∧ q < b + n
      · rw [if_pos h, if_pos (by omega)]
      · rw [if_neg h, if_neg (by omega)]
theorem putTo_lt {N m : Nat} (x b k n : Nat) (h : N < 2 ^ m) (hb : b + n ≤ m) : putTo N x b k n < 2 ^ m := by
  induction n with
  | zero => exact h
  | succ n ih => rw [putTo]; exact setb_lt _ (ih (by omega)) (by omega)

/-- What a register is modulo 2 to the 32. -/
def low (v : Int) : Nat := (v % 4294967296).toNat
theorem low_lt (v : Int) : low v < 4294967296 := by unfold low; omega

/-- What a run works on. -/
structure St where
  reg : Nat → Int
  mark : Nat → Bool
  N : Nat

def upd {α : Type} (f : Nat → α) (r : Nat) (v : α) : Nat → α := fun j => if j = r then v else f j

/-- What an instruction does, and how many behind it are left out; none: the run ends. -/
def act (x : Ins) (s : St) : Option (St × Nat) :=
  if x.op = 71 then some ({ s with reg := upd s.reg x.r.toNat (putTo (low (s.reg x.r.toNat)) s.N x.k.toNat x.b.toNat x.n.toNat : Nat) }, 0)
  else if x.op = 80 then some ({ s with N := putTo s.N (low (s.reg x.r.toNat)) x.b.toNat x.k.toNat x.n.toNat }, 0)
  else if x.op = 88 then some ({ s with reg := upd s.reg x.r.toNat (extV (s.reg x.r.toNat) x.n) }, 0)
  else if x.op = 82 then (if fitsB (if x.k = 1 then 115 else 117) x.n (s.reg x.r.toNat) then some (s, 0) else none)
  else if x.op = 74 then some (s, if s.reg x.r.toNat = x.b then 0 else x.n.toNat)
  else some ({ s with mark := upd s.mark x.r.toNat true }, 0)

theorem act_put {r b k n : Int} (S : St) : act ⟨80, r, b, k, n⟩ S = some ({ S with N := putTo S.N (low (S.reg r.toNat)) b.toNat k.toNat n.toNat }, 0) := by
  simp [act]
theorem act_get {r b k n : Int} (S : St) : act ⟨71, r, b, k, n⟩ S = some ({ S with reg := upd S.reg r.toNat (putTo (low (S.reg r.toNat)) S.N k.toNat b.toNat n.toNat : Nat) }, 0) := by
  simp [act]
theorem act_x {r b k n : Int} (S : St) : act ⟨88, r, b, k, n⟩ S = some ({ S with reg := upd S.reg r.toNat (extV (S.reg r.toNat) n) }, 0) := by
  simp [act]
theorem act_range {r b k n : Int} (S : St) : act ⟨82, r, b, k, n⟩ S = if fitsB (if k = 1 then 115 else 117) n (S.reg r.toNat) then some (S, 0) else none := by
  simp [act]
theorem act_jump {r b k n : Int} (S : St) : act ⟨74, r, b, k, n⟩ S = some (S, if S.reg r.toNat = b then 0 else n.toNat) := by
  simp [act]
theorem act_mark {r b k n : Int} (S : St) : act ⟨65, r, b, k, n⟩ S = some ({ S with mark := upd S.mark r.toNat true }, 0) := by
  simp [act]

/-- P8. -/
def mrun : Nat → List Ins → St → St × Int × Int
  | 0, _, s => (s, 0, 0)
  | _ + 1, [], s => (s, 0, 0)
  | f + 1, x :: l, s => match act x s with
    | none => (s, 9, x.r)
    | some (s', d) => mrun f (l.drop d) s'
theorem mrun_fuel : ∀ (f : Nat) (l : List Ins) (s : St), l.length ≤ f → mrun f l s = mrun l.length l s := by
  intro f
  induction f using Nat.strongRecOn with
  | ind f ih =>
    intro l s h
    cases l with
    | nil => cases f <;> simp [mrun]
    | cons x l =>
      obtain ⟨f, rfl⟩ : ∃ g, f = g + 1 := ⟨f - 1, by simp at h; omega⟩
      simp only [List.length_cons] at h
      rw [mrun, List.length_cons, mrun]
      cases act x s with
      | none => rfl
      | some y =>
        obtain ⟨s', d⟩ := y
        simp only
        have hd : (l.drop d).length ≤ l.length := by simp
        by_cases e : l.length = f
        · rw [e]
        · rw [ih f (by omega) _ _ (by omega), ← ih l.length (by omega) _ _ hd]
def runL (l : List Ins) (s : St) : St × Int × Int := mrun l.length l s
theorem runL_nil (s : St) : runL [] s = (s, 0, 0) := rfl
theorem runL_cons (x : Ins) (l : List Ins) (s : St) : runL (x :: l) s = match act x s with
    | none => (s, 9, x.r)
    | some (s', d) => runL (l.drop d) s' := by
  rw [runL, List.length_cons, mrun]
  cases act x s with
  | none => rfl
  | some y =>
    obtain ⟨s', d⟩ := y
    simp only
    exact mrun_fuel _ _ _ (by simp)

/-- Code that Verify admits. -/
def Fine (l : List Ins) : Prop := ∀ (i : Nat) (x : Ins), l[i]? = some x → x.Byt ∧ knownB x ((l.length : Int) - 1 - i) = true
/-- The code of a row of instructions. -/
def Ins.bytes (x : Ins) : List Int := [x.op, x.r, x.b, x.k, x.n]
def codeB (l : List Ins) : ByteArray := strOfNums (l.flatMap Ins.bytes)

end Go.Proofs.Ytljodhcfimklkab
