import Derived.Test.YtljodhcfimklkaaM2
namespace Go.Proofs.Ytljodhcfimklkaa
open Go.RowKit

def sigP (L : List Sg) (k : Nat) : List Ins := ifAct (sgAt L k) (muxOf L) (pSteps (sgAt L k) k)
def packTo (L : List Sg) : Nat → List Ins
  | 0 => []
  | k + 1 => packTo L k ++ sigP L k
def headU (L : List Sg) : List Ins := if 0 ≤ muxOf L then uSteps (sgAt L (muxOf L).toNat) (muxOf L) else []
def sigU (L : List Sg) (k : Nat) : List Ins := if (k : Int) = muxOf L then [] else ifAct (sgAt L k) (muxOf L) (uSteps (sgAt L k) k)
def unpackTo (L : List Sg) : Nat → List Ins
  | 0 => headU L
  | k + 1 => unpackTo L k ++ sigU L k

theorem errOf_dig {L E : List Sg} {s : Sg} {sz : Int} (h : errOf L E s sz = 0) (hd : isDigB s.rl = true) : 0 ≤ muxOf L := by
  rw [errOf] at h
  split at h
  · omega
  · split at h
    · omega
    · split at h
      · omega
      · rename_i h3
        have : ¬ muxOf L < 0 := fun hx => h3 ⟨hd, hx⟩
        omega
theorem sound_mux {L : List Sg} {sz : Int} (hs : Sound L sz) {k : Nat} (hk : k < L.length) (hd : isDigB (sgAt L k).rl = true) : 0 ≤ muxOf L := errOf_dig (hs k hk) hd

theorem bits_apart {L : List Sg} {Z : List Int} {sz c : Int} (hs : Sound L sz) (hg : Good L) {k : Nat} (hk : k < L.length) (ak : activeB (sgAt L k).rl c = true) (j : Nat) (hj : (j : Int) < (sgAt L k).ln) :
    (bitsTo L Z c k).testBit (place (sgAt L k).st (sgAt L k).ln (sgAt L k).od j).toNat = false := by
  cases ht : (bitsTo L Z c k).testBit (place (sgAt L k).st (sgAt L k).ln (sgAt L k).od j).toNat with
  | false => rfl
  | true =>
    exfalso
    rw [bits_test] at ht
    obtain ⟨i, hi, ai, a, ha, hv, hp⟩ := ht
    have oki := (hg.2 i (by omega)).1
    have okk := (hg.2 k hk).1
    have p1 := place_lo (sgAt L i).st (sgAt L i).ln (sgAt L i).od a oki.st0 (by omega) (by omega)
    have p2 := place_lo (sgAt L k).st (sgAt L k).ln (sgAt L k).od j okk.st0 (by omega) (by omega)
    exact absurd (by omega) (apart hs hk hi ai ak a j ha (by omega))

theorem run_packTo {L : List Sg} {Z : List Int} {sz : Int} (hs : Sound L sz) (hg : Good L) (S0 : St) (hr : S0.reg = zAt Z) (h0 : S0.N = 0) : ∀ (k : Nat) (rest : List Ins), k ≤ L.length → (∀ j, j < k → unfit L Z (choiceOf L Z) j = false) →
    runL (packTo L k ++ rest) S0 = runL rest { S0 with N := bitsTo L Z (choiceOf L Z) k } := by
  intro k
  induction k with
  | zero => intro rest _ _; rw [packTo, bitsTo, ← h0]; rfl
  | succ k ih =>
    intro rest hk hno
    rw [packTo, List.append_assoc, ih _ (by omega) (fun j hj => hno j (by omega)), sigP]
    have hu := hno k (by omega)
    have ok := (hg.2 k (by omega)).1
    rw [run_ifAct (c := choiceOf L Z) (fun hd => by
      have := sound_mux hs (by omega) hd
      simp only
      rw [hr, choiceOf, if_pos this])]
    cases ha : activeB (sgAt L k).rl (choiceOf L Z) with
    | false => rw [bits_stay ha]; rfl
    | true =>
      rw [unfit, ha] at hu
      have hf : fitsB (sgAt L k).kd (sgAt L k).ln (zAt Z k) = true := by simpa using hu
      simp only [if_true]
      rw [run_pSteps ok]
      simp only [hr, hf, if_true]
      rw [laySet_or ok _ _ (fun j hj => bits_apart hs hg (by omega) ha j hj), bitsTo, if_pos ha]
      rfl

theorem packTo_split (L : List Sg) (u : Nat) : ∀ n, u < n → ∃ tl, packTo L n = packTo L u ++ (sigP L u ++ tl) := by
  intro n
  induction n with
  | zero => intro h; omega
  | succ n ih =>
    intro h
    by_cases e : u = n
    · subst e; exact ⟨[], by simp [packTo]⟩
    · obtain ⟨tl, ht⟩ := ih (by omega)
      exact ⟨tl ++ sigP L n, by rw [packTo, ht]; simp⟩

/-- What the first code does. -/
theorem run_pack {L : List Sg} {Z : List Int} {sz : Int} (hs : Sound L sz) (hg : Good L) (S0 : St) (hr : S0.reg = zAt Z) (h0 : S0.N = 0) :
    (0 ≤ firstUn L Z (choiceOf L Z) → (runL (packTo L L.length) S0).2 = (9, firstUn L Z (choiceOf L Z))) ∧
    (firstUn L Z (choiceOf L Z) < 0 → runL (packTo L L.length) S0 = ({ S0 with N := bitsTo L Z (choiceOf L Z) L.length }, 0, 0)) := by
  rcases findIx_cases (unfit L Z (choiceOf L Z)) L.length with ⟨h, hno⟩ | ⟨u, hu, h, h2⟩
  · constructor
    · intro h3; rw [firstUn, h] at h3; omega
    · intro _
      have := run_packTo hs hg S0 hr h0 L.length [] (Nat.le_refl _) hno
      rw [List.append_nil, runL_nil] at this
      exact this
  · constructor
    · intro _
      have hno : ∀ j, j < u → unfit L Z (choiceOf L Z) j = false := by
        intro j hj
        have hix : firstIx (unfit L Z (choiceOf L Z)) L.length = u := by
          unfold findIx at h
          split at h <;> omega
        exact firstIx_no _ L.length j (by omega)
      obtain ⟨tl, ht⟩ := packTo_split L u L.length hu
      rw [ht, run_packTo hs hg S0 hr h0 u _ (by omega) hno, sigP, firstUn, h]
      have ok := (hg.2 u hu).1
      rw [run_ifAct (c := choiceOf L Z) (fun hd => by
        have := sound_mux hs hu hd
        simp only
        rw [hr, choiceOf, if_pos this])]
      rw [unfit, Bool.and_eq_true] at h2
      rw [if_pos h2.1, run_pSteps ok]
      have hf : fitsB (sgAt L u).kd (sgAt L u).ln (zAt Z u) = false := by simpa using h2.2
      simp only [hr, hf, Bool.false_eq_true, if_false]
    · intro h3; rw [firstUn, h] at h3; omega

/-- Has the code of the first k signals (and the multiplexor's, ahead of them) read this one? -/
def onU (L : List Sg) (N k j : Nat) : Bool := decide (j < L.length) && (decide (j < k) || decide ((j : Int) = muxOf L)) && activeB (sgAt L j).rl (choiceN L N)
def stU (L : List Sg) (N k : Nat) : St := ⟨fun j => if onU L N k j then held (sgAt L j) N else 0, onU L N k, N⟩

theorem run_unpackTo {L : List Sg} {sz : Int} (hs : Sound L sz) (hg : Good L) (N : Nat) : ∀ (k : Nat) (rest : List Ins), k ≤ L.length →
    runL (unpackTo L k ++ rest) ⟨fun _ => 0, fun _ => false, N⟩ = runL rest (stU L N k) := by
  intro k
  induction k with
  | zero =>
    intro rest _
    rw [unpackTo, headU]
    rcases mux_range L with hmx | ⟨x, hx, hmx, hrl⟩
    · rw [if_neg (by omega)]
      have : stU L N 0 = ⟨fun _ => 0, fun _ => false, N⟩ := by
        have h1 : ∀ j, onU L N 0 j = false := by
          intro j
          have : ¬ (j : Int) = muxOf L := by omega
          simp [onU, this]
        rw [stU]
        simp only [h1, Bool.false_eq_true, if_false]
        congr 1
        funext j; exact h1 j
      rw [this]; rfl
    · rw [if_pos (by omega), hmx, Int.toNat_natCast, run_uSteps (hg.2 x hx).1 x _ rfl]
      have h1 : ∀ j, onU L N 0 j = decide (j = x) := by
        intro j
        by_cases e : j = x
        · subst e
          have := mux_active hrl (choiceN L N)
          simp [onU, hx, hmx, this]
        · have : ¬ (j : Int) = x := by omega
          simp [onU, hmx, this, e]
      have : stU L N 0 = { reg := upd (fun _ => 0) x (held (sgAt L x) N), mark := upd (fun _ => false) x true, N := N } := by
        rw [stU]
        congr 1
        · funext j
          rw [h1]
          by_cases e : j = x
          · simp [upd, e]
          · simp [upd, e]
        · funext j
          rw [h1]
          by_cases e : j = x
          · simp [upd, e]
          · simp [upd, e]
      rw [this]
  | succ k ih =>
    intro rest hk
    rw [unpackTo, List.append_assoc, ih _ (by omega), sigU]
    by_cases e : (k : Int) = muxOf L
    · rw [if_pos e, List.nil_append]
      have h1 : onU L N (k + 1) = onU L N k := by
        funext j
        by_cases ej : j = k
        · subst ej; simp [onU, e]
        · have : (j < k + 1) ↔ j < k := by omega
          simp [onU, this]
      rw [stU, stU, h1]
    · rw [if_neg e]
      have ok := (hg.2 k (by omega)).1
      have hoff : onU L N k k = false := by simp [onU, e]
      have h1 : ∀ j, j ≠ k → onU L N (k + 1) j = onU L N k j := by
        intro j hj
        have : (j < k + 1) ↔ j < k := by omega
        simp [onU, this]
      have h2 : onU L N (k + 1) k = activeB (sgAt L k).rl (choiceN L N) := by simp [onU, show k < L.length by omega]
      rw [run_ifAct (c := choiceN L N) (fun hd => by
        have hm := sound_mux hs (show k < L.length by omega) hd
        rcases mux_range L with hmx | ⟨x, hx, hmx, hrl⟩
        · omega
        · have := mux_active hrl (choiceN L N)
          simp only [stU]
          rw [hmx, Int.toNat_natCast]
          have hon : onU L N k x = true := by simp [onU, hx, hmx, this]
          rw [if_pos hon, choiceN, hmx, if_pos (by omega), Int.toNat_natCast])]
      cases ha : activeB (sgAt L k).rl (choiceN L N) with
      | false =>
        have : onU L N (k + 1) = onU L N k := by
          funext j
          by_cases ej : j = k
          · subst ej; rw [h2, ha, hoff]
          · exact h1 j ej
        simp only [Bool.false_eq_true, if_false]
        rw [stU, stU, this]
      | true =>
        simp only [if_true]
        rw [run_uSteps ok k _ (by simp [stU, hoff])]
        congr 1
        rw [stU, stU]
        simp only [St.mk.injEq, and_true]
        constructor
        · funext j
          by_cases ej : j = k
          · subst ej; rw [upd_at, h2, ha]; rfl
          · rw [h1 j ej]; simp [upd, ej]
        · funext j
          by_cases ej : j = k
          · subst ej; rw [upd_at, h2, ha]
          · rw [h1 j ej]; simp [upd, ej]

/-- What the second code does. -/
theorem run_unpack {L : List Sg} {sz : Int} (hs : Sound L sz) (hg : Good L) (N : Nat) : runL (unpackTo L L.length) ⟨fun _ => 0, fun _ => false, N⟩ = (stU L N L.length, 0, 0) := by
  have := run_unpackTo hs hg N L.length [] (Nat.le_refl _)
  rw [List.append_nil, runL_nil] at this
  exact this
theorem stU_reg (L : List Sg) (N j : Nat) : (stU L N L.length).reg j = if j < L.length then valN L N (choiceN L N) j else 0 := by
  simp only [stU, onU, valN]
  by_cases h : j < L.length
  · simp [h]
  · simp [h]
theorem stU_mark (L : List Sg) (N j : Nat) : (stU L N L.length).mark j = (decide (j < L.length) && activeB (sgAt L j).rl (choiceN L N)) := by
  simp only [stU, onU]
  by_cases h : j < L.length
  · simp [h]
  · simp [h]

end Go.Proofs.Ytljodhcfimklkaa
