import Derived.Test.YtljodhcfimklkaaM1
namespace Go.Proofs.Ytljodhcfimklkaa
open Go.RowKit

theorem test_toNat (N q : Nat) : (N.testBit q).toNat = bitN N q := by
  rw [bitN_test]; cases N.testBit q <;> rfl

/-- Bits i on, m of them, of x, laid at the places of a signal. -/
def laySet (st ln od : Int) (N x i : Nat) : Nat → Nat
  | 0 => N
  | m + 1 => setb (laySet st ln od N x i m) (place st ln od ((i + m : Nat) : Int)).toNat (x.testBit (i + m))

theorem laySet_add (st ln od : Int) (N x i n : Nat) : laySet st ln od (laySet st ln od N x 0 i) x i n = laySet st ln od N x 0 (i + n) := by
  induction n with
  | zero => rfl
  | succ n ih => rw [laySet, ih, ← Nat.add_assoc, laySet, Nat.zero_add]

theorem putTo_lay {st ln od : Int} {N x b i n : Nat} (hp : ∀ j, j < n → (place st ln od ((i + j : Nat) : Int)).toNat = b + j) : putTo N x b i n = laySet st ln od N x i n := by
  induction n with
  | zero => rfl
  | succ n ih => rw [putTo, laySet, ih (fun j hj => hp j (by omega)), hp n (by omega)]

theorem putTo_held {st ln od : Int} {N b i n : Nat} (hp : ∀ j, j < n → (place st ln od ((i + j : Nat) : Int)).toNat = b + j) : putTo (heldTo st ln od N i) N i b n = heldTo st ln od N (i + n) := by
  induction n with
  | zero => rfl
  | succ n ih => rw [putTo, ih (fun j hj => hp j (by omega)), setb_add (heldTo_lt _ _ _ _ _), ← hp n (by omega), test_toNat, ← Nat.add_assoc, heldTo]

theorem place_next {st ln od i : Int} (h : place st ln od i % 8 ≠ 7) : place st ln od (i + 1) = place st ln od i + 1 := by
  unfold place at h ⊢
  split
  · omega
  · rename_i e
    rw [if_neg e] at h
    unfold mir at h ⊢; omega
theorem place_run {st ln od i : Int} (j : Nat) (h : place st ln od i % 8 + j ≤ 7) : place st ln od (i + j) = place st ln od i + j := by
  induction j with
  | zero => simp
  | succ j ih =>
    have := ih (by omega)
    rw [show i + ((j + 1 : Nat) : Int) = (i + j) + 1 by omega, place_next (by omega)]
    omega

/-- A piece of a signal: its place, its first bit, its length. -/
structure Pc where
  p : Int
  i : Int
  n : Int

def pcLen (st ln od i : Int) : Int := if ln - i < 8 - place st ln od i % 8 then ln - i else 8 - place st ln od i % 8
def pcs (st ln od : Int) : Nat → Int → List Pc
  | 0, _ => []
  | f + 1, i => if i < ln then ⟨place st ln od i, i, pcLen st ln od i⟩ :: pcs st ln od f (i + pcLen st ln od i) else []
theorem pcLen_bounds {st ln od i : Int} (h : i < ln) : 1 ≤ pcLen st ln od i ∧ pcLen st ln od i ≤ ln - i ∧ place st ln od i % 8 + pcLen st ln od i ≤ 8 := by
  unfold pcLen; split <;> omega
theorem pcLen_run {st ln od i : Int} (h : i < ln) (j : Nat) (hj : (j : Int) < pcLen st ln od i) : place st ln od (i + j) = place st ln od i + j := by
  have := pcLen_bounds (st := st) (od := od) h
  exact place_run j (by omega)
theorem pcs_end {st ln od i : Int} (f : Nat) (h : ¬ i < ln) : pcs st ln od f i = [] := by
  cases f with
  | zero => rfl
  | succ f => rw [pcs, if_neg h]

def Pc.ins (op r : Int) (p : Pc) : Ins := ⟨op, r, p.p, p.i, p.n⟩
def movesL (op r st ln od : Int) : List Ins := (pcs st ln od ln.toNat 0).map (Pc.ins op r)

theorem act_put {r b k n : Int} (S : St) : act ⟨80, r, b, k, n⟩ S = some ({ S with N := putTo S.N (low (S.reg r.toNat)) b.toNat k.toNat n.toNat }, 0) := by
  simp [act]
theorem act_get {r b k n : Int} (S : St) : act ⟨71, r, b, k, n⟩ S = some ({ S with reg := upd S.reg r.toNat (putTo (low (S.reg r.toNat)) S.N k.toNat b.toNat n.toNat : Nat) }, 0) := by
  simp [act]
theorem act_x {r b k n : Int} (S : St) : act ⟨88, r, b, k, n⟩ S = some ({ S with reg := upd S.reg r.toNat (extV (S.reg r.toNat) n) }, 0) := by
  simp [act]
theorem act_range {r b k n : Int} (S : St) : act ⟨82, r, b, k, n⟩ S = if fitsB (if k = 1 then 115 else 117) n (S.reg r.toNat) then some (S, 0) else none := by
  simp [act]
theorem act_jump {r b k n : Int} (S : St) : act ⟨74, r, b, k, n⟩ S = some (S, if S.reg r.toNat = b then 0 else n.toNat) := by
  simp [act]
theorem act_mark {r b k n : Int} (S : St) : act ⟨65, r, b, k, n⟩ S = some ({ S with mark := upd S.mark r.toNat true }, 0) := by
  simp [act]

theorem run_puts {st ln od : Int} (h0 : 0 ≤ st) (r : Nat) (x : Nat) (N0 : Nat) (rest : List Ins) : ∀ (f : Nat) (i : Nat) (S : St), (i : Int) ≤ ln → ln - i ≤ f → low (S.reg r) = x → S.N = laySet st ln od N0 x 0 i →
    runL ((pcs st ln od f i).map (Pc.ins 80 r) ++ rest) S = runL rest { S with N := laySet st ln od N0 x 0 ln.toNat } := by
  intro f
  induction f with
  | zero =>
    intro i S h1 h2 _ hN
    have : ln.toNat = i := by omega
    rw [pcs, this, ← hN]; rfl
  | succ f ih =>
    intro i S h1 h2 hx hN
    by_cases hlt : (i : Int) < ln
    · have hb := pcLen_bounds (st := st) (od := od) hlt
      have hp0 := place_lo st ln od i h0 (by omega) hlt
      rw [pcs, if_pos hlt, List.map_cons, List.cons_append, runL_cons, Pc.ins, act_put]
      simp only [List.drop_zero, Int.toNat_natCast]
      have e : (i : Int) + pcLen st ln od i = ((i + (pcLen st ln od i).toNat : Nat) : Int) := by omega
      rw [e]
      refine (ih _ { S with N := putTo S.N (low (S.reg r)) (place st ln od i).toNat i (pcLen st ln od i).toNat } (by omega) (by omega) hx ?_).trans rfl
      simp only
      rw [hx, hN, putTo_lay, laySet_add]
      intro j hj
      have := pcLen_run (st := st) (od := od) hlt j (by omega)
      rw [show ((i + j : Nat) : Int) = (i : Int) + j by omega, this]; omega
    · have : ln.toNat = i := by omega
      rw [pcs_end _ hlt, this, ← hN]; rfl

theorem upd_upd {α : Type} (f : Nat → α) (r : Nat) (a b : α) : upd (upd f r a) r b = upd f r b := by
  funext j; simp only [upd]; split <;> rfl
theorem upd_at {α : Type} (f : Nat → α) (r : Nat) (a : α) : upd f r a r = a := by simp [upd]
theorem upd_same {α : Type} (f : Nat → α) (r : Nat) (a : α) (h : f r = a) : upd f r a = f := by
  funext j; simp only [upd]; split
  · rename_i e; subst e; exact h.symm
  · rfl

theorem low_held (st ln od : Int) (N i : Nat) (h : i ≤ 32) : low (heldTo st ln od N i : Int) = heldTo st ln od N i := by
  have h1 := heldTo_lt st ln od N i
  have h2 : 2 ^ i ≤ 2 ^ 32 := Nat.pow_le_pow_right (by omega) h
  have e : (2 : Nat) ^ 32 = 4294967296 := rfl
  unfold low; omega

theorem run_gets {st ln od : Int} (h0 : 0 ≤ st) (h32 : ln ≤ 32) (r : Nat) (rest : List Ins) (S : St) : ∀ (f : Nat) (i : Nat), (i : Int) ≤ ln → ln - i ≤ f →
    runL ((pcs st ln od f i).map (Pc.ins 71 r) ++ rest) { S with reg := upd S.reg r (heldTo st ln od S.N i : Nat) } = runL rest { S with reg := upd S.reg r (heldTo st ln od S.N ln.toNat : Nat) } := by
  intro f
  induction f with
  | zero =>
    intro i h1 h2
    have : ln.toNat = i := by omega
    rw [pcs, this]; rfl
  | succ f ih =>
    intro i h1 h2
    by_cases hlt : (i : Int) < ln
    · have hb := pcLen_bounds (st := st) (od := od) hlt
      have hp0 := place_lo st ln od i h0 (by omega) hlt
      rw [pcs, if_pos hlt, List.map_cons, List.cons_append, runL_cons, Pc.ins, act_get]
      simp only [List.drop_zero, Int.toNat_natCast, upd_at, upd_upd]
      have e : (i : Int) + pcLen st ln od i = ((i + (pcLen st ln od i).toNat : Nat) : Int) := by omega
      rw [low_held _ _ _ _ _ (by omega), putTo_held, e, ih _ (by omega) (by omega)]
      intro j hj
      have := pcLen_run (st := st) (od := od) hlt j (by omega)
      rw [show ((i + j : Nat) : Int) = (i : Int) + j by omega, this]; omega
    · have : ln.toNat = i := by omega
      rw [pcs_end _ hlt, this]; rfl

/-- The instructions for one signal, and for a message. -/
def sgnK (kd : Int) : Int := if kd = 115 then 1 else 0
def pSteps (s : Sg) (r : Int) : List Ins := ⟨82, r, 0, sgnK s.kd, s.ln⟩ :: movesL 80 r s.st s.ln s.od
def xStep (s : Sg) (r : Int) : List Ins := if s.kd = 115 then [⟨88, r, 0, 0, s.ln⟩] else []
def uSteps (s : Sg) (r : Int) : List Ins := movesL 71 r s.st s.ln s.od ++ xStep s r ++ [⟨65, r, 0, 0, 0⟩]
def ifAct (s : Sg) (mux : Int) (l : List Ins) : List Ins := if isDigB s.rl then ⟨74, mux, s.rl - 48, 0, l.length⟩ :: l else l

theorem sgnK_kd {s : Sg} (ok : s.Ok) : (if sgnK s.kd = 1 then (115 : Int) else 117) = s.kd := by
  unfold sgnK
  rcases ok.kd with h | h <;> rw [h] <;> rfl

theorem run_pSteps {s : Sg} (ok : s.Ok) (r : Nat) (S : St) (rest : List Ins) : runL (pSteps s r ++ rest) S =
    if fitsB s.kd s.ln (S.reg r) then runL rest { S with N := laySet s.st s.ln s.od S.N (low (S.reg r)) 0 s.ln.toNat } else (S, 9, r) := by
  rw [pSteps, List.cons_append, runL_cons, act_range, sgnK_kd ok, Int.toNat_natCast]
  cases fitsB s.kd s.ln (S.reg r) with
  | false => rfl
  | true =>
    have h0 := ok.ln0
    have := run_puts (st := s.st) (ln := s.ln) (od := s.od) ok.st0 r (low (S.reg r)) S.N rest s.ln.toNat 0 S (by omega) (by omega) rfl rfl
    simpa [movesL] using this

theorem ext_held {s : Sg} (ok : s.Ok) (hk : s.kd = 115) (N : Nat) : extV (heldTo s.st s.ln s.od N s.ln.toNat : Int) s.ln = held s N := by
  have h1 := heldTo_lt s.st s.ln s.od N s.ln.toNat
  have hpw := pow_half s.ln ok.ln0
  have hpn : ((2 ^ s.ln.toNat : Nat) : Int) = 2 * half s.ln := by rw [← hpw]; simp
  rw [extV, held, heldV, Int.emod_eq_of_lt (by omega) (by omega)]
  by_cases h : half s.ln ≤ (heldTo s.st s.ln s.od N s.ln.toNat : Int)
  · rw [if_pos h, if_pos ⟨hk, h⟩]
  · rw [if_neg h, if_neg (fun hx => h hx.2)]

theorem run_uSteps {s : Sg} (ok : s.Ok) (r : Nat) (S : St) (hr : S.reg r = 0) (rest : List Ins) : runL (uSteps s r ++ rest) S =
    runL rest { S with reg := upd S.reg r (held s S.N), mark := upd S.mark r true } := by
  have h0 := ok.ln0
  have h := run_gets (st := s.st) (ln := s.ln) (od := s.od) ok.st0 ok.ln1 r (xStep s r ++ (⟨65, r, 0, 0, 0⟩ :: rest)) S s.ln.toNat 0 (by omega) (by omega)
  have e : { S with reg := upd S.reg r (heldTo s.st s.ln s.od S.N 0 : Nat) } = S := by
    rw [upd_same _ _ _ (by simpa [heldTo] using hr)]
  rw [e] at h
  have e2 : uSteps s r ++ rest = List.map (Pc.ins 71 r) (pcs s.st s.ln s.od s.ln.toNat 0) ++ (xStep s r ++ (⟨65, r, 0, 0, 0⟩ :: rest)) := by simp [uSteps, movesL]
  rw [e2]
  simp only [Int.natCast_zero] at h
  rw [h]
  rcases ok.kd with hk | hk
  · rw [xStep, if_neg (by omega), List.nil_append, runL_cons, act_mark]
    simp only [List.drop_zero, Int.toNat_natCast]
    have : held s S.N = (heldTo s.st s.ln s.od S.N s.ln.toNat : Int) := by rw [held, heldV, if_neg (fun hx => by omega)]
    rw [this]
  · rw [xStep, if_pos hk, List.cons_append, List.nil_append, runL_cons, act_x]
    simp only [List.drop_zero, Int.toNat_natCast, upd_at, upd_upd]
    rw [runL_cons, act_mark, ext_held ok hk]
    simp only [List.drop_zero, Int.toNat_natCast]

theorem run_ifAct {s : Sg} {mux c : Int} {l rest : List Ins} {S : St} (hm : isDigB s.rl = true → S.reg mux.toNat = c) : runL (ifAct s mux l ++ rest) S = if activeB s.rl c then runL (l ++ rest) S else runL rest S := by
  unfold ifAct
  cases hd : isDigB s.rl with
  | false => rw [activeB, hd]; rfl
  | true =>
    simp only [if_true]
    rw [List.cons_append, runL_cons, act_jump, hm hd, activeB, hd]
    simp only [Int.toNat_natCast]
    by_cases e : c = s.rl - 48
    · rw [if_pos e]; simp [e]
    · rw [if_neg e, List.drop_left]
      have : ¬ s.rl - 48 = c := fun h => e h.symm
      simp [this]

theorem laySet_test {s : Sg} (ok : s.Ok) (N x : Nat) (m : Nat) (hm : (m : Int) ≤ s.ln) (q : Nat) : (laySet s.st s.ln s.od N x 0 m).testBit q = true ↔
    (∃ j, j < m ∧ (place s.st s.ln s.od j).toNat = q ∧ x.testBit j = true) ∨ ((∀ j : Nat, j < m → (place s.st s.ln s.od j).toNat ≠ q) ∧ N.testBit q = true) := by
  induction m with
  | zero => simp [laySet]
  | succ m ih =>
    rw [laySet, setb_test, Nat.zero_add]
    by_cases e : q = (place s.st s.ln s.od m).toNat
    · rw [if_pos e]
      constructor
      · intro h; exact .inl ⟨m, by omega, e.symm, h⟩
      · rintro (⟨j, hj, hp, hx⟩ | ⟨h, _⟩)
        · have p1 := place_lo s.st s.ln s.od j ok.st0 (by omega) (by omega)
          have p2 := place_lo s.st s.ln s.od m ok.st0 (by omega) (by omega)
          have := place_inj (s := s) (i := j) (j := m) (by omega)
          have : j = m := by omega
          subst this; exact hx
        · exact absurd e.symm (h m (by omega))
    · rw [if_neg e, ih (by omega)]
      constructor
      · rintro (⟨j, hj, hp, hx⟩ | ⟨h, hN⟩)
        · exact .inl ⟨j, by omega, hp, hx⟩
        · refine .inr ⟨fun j hj => ?_, hN⟩
          by_cases ej : j = m
          · subst ej; exact fun h => e h.symm
          · exact h j (by omega)
      · rintro (⟨j, hj, hp, hx⟩ | ⟨h, hN⟩)
        · refine .inl ⟨j, ?_, hp, hx⟩
          have : j ≠ m := fun ej => by subst ej; exact e hp.symm
          omega
        · exact .inr ⟨fun j hj => h j (by omega), hN⟩

theorem low_bit (v : Int) (j : Nat) (hj : j < 32) : (low v).testBit j = true ↔ bitv v j = 1 := by
  have e1 : bitv v j = bitN (low v) j := by
    unfold bitv bitN low
    have a : v % 18446744073709551616 = (v % 4294967296) + 4294967296 * ((v % 18446744073709551616) / 4294967296) := by omega
    rw [a]
    have b : (4294967296 : Int) = 2 ^ (j + 1) * 2 ^ (31 - j) := by rw [← Int.pow_add, show j + 1 + (31 - j) = 32 by omega]; rfl
    have c : (4294967296 : Int) * ((v % 18446744073709551616) / 4294967296) = 2 ^ (j + 1) * (2 ^ (31 - j) * ((v % 18446744073709551616) / 4294967296)) := by rw [← Int.mul_assoc, ← b]
    rw [c, div_shift]
    generalize 2 ^ (31 - j) * ((v % 18446744073709551616) / 4294967296) = y
    have d : v % 4294967296 = ((v % 4294967296).toNat : Int) := by omega
    have e : (((v % 4294967296).toNat : Nat) : Int) / 2 ^ j = (((v % 4294967296).toNat / 2 ^ j : Nat) : Int) := by simp
    rw [d, e, Int.toNat_natCast]
    generalize (v % 4294967296).toNat / 2 ^ j = z
    omega
  rw [e1, bitN_test]
  cases (low v).testBit j <;> simp

theorem laySet_or {s : Sg} (ok : s.Ok) (N : Nat) (v : Int) (hN : ∀ j : Nat, (j : Int) < s.ln → N.testBit (place s.st s.ln s.od j).toNat = false) :
    laySet s.st s.ln s.od N (low v) 0 s.ln.toNat = N ||| layTo s.st s.ln s.od v s.ln.toNat := by
  have h0 := ok.ln0
  have h1 := ok.ln1
  apply Nat.eq_of_testBit_eq
  intro q
  rw [Bool.eq_iff_iff, laySet_test ok _ _ _ (by omega), Nat.testBit_or, Bool.or_eq_true, lay_test]
  constructor
  · rintro (⟨j, hj, hp, hx⟩ | ⟨_, h⟩)
    · exact .inr ⟨j, hj, (low_bit v j (by omega)).1 hx, hp⟩
    · exact .inl h
  · rintro (h | ⟨j, hj, hx, hp⟩)
    · refine .inr ⟨fun j hj e => ?_, h⟩
      have := hN j (by omega)
      rw [e, h] at this; cases this
    · exact .inl ⟨j, hj, hp, (low_bit v j (by omega)).2 hx⟩

end Go.Proofs.Ytljodhcfimklkaa
