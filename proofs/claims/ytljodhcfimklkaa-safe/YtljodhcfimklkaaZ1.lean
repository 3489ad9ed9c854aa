import Derived.Test.YtljodhcfimklkaaY5
namespace Go.Proofs.Ytljodhcfimklkaa
open Go.RowKit

theorem place_inj {s : Sg} {i j : Int} (h : place s.st s.ln s.od i = place s.st s.ln s.od j) : i = j := by
  unfold place at h
  split at h
  · omega
  · have h2 : mir (mir (mir s.st + s.ln - 1 - i)) = mir (mir (mir s.st + s.ln - 1 - j)) := by rw [h]
    rw [mir_mir, mir_mir] at h2
    omega

theorem active_meet {a b c : Int} (ha : activeB a c = true) (hb : activeB b c = true) : meetB a b = true := by
  unfold activeB at ha hb
  unfold meetB
  cases h1 : isDigB a with
  | false => simp
  | true =>
    cases h2 : isDigB b with
    | false => simp
    | true =>
      rw [h1] at ha
      rw [h2] at hb
      simp at ha hb
      have : a = b := by omega
      simp [this]

theorem errOf_share {L E : List Sg} {s : Sg} {sz : Int} (h : errOf L E s sz = 0) : anyIx (fun k => shareB (sgAt E k) s && meetB (sgAt E k).rl s.rl) E.length = false := by
  cases e : anyIx (fun k => shareB (sgAt E k) s && meetB (sgAt E k).rl s.rl) E.length with
  | false => rfl
  | true =>
    exfalso
    rw [errOf, e] at h
    split at h
    · omega
    · split at h
      · omega
      · split at h
        · omega
        · split at h
          · omega
          · simp at h

/-- Nothing is wrong with any of these signals. -/
def Sound (L : List Sg) (sz : Int) : Prop := ∀ j, j < L.length → errAt L sz j = 0

theorem apart {L : List Sg} {sz c : Int} (h : Sound L sz) {i k : Nat} (hk : k < L.length) (hik : i < k) (ai : activeB (sgAt L i).rl c = true) (ak : activeB (sgAt L k).rl c = true)
    (a b : Nat) (ha : a < (sgAt L i).ln.toNat) (hb : b < (sgAt L k).ln.toNat) : place (sgAt L i).st (sgAt L i).ln (sgAt L i).od a ≠ place (sgAt L k).st (sgAt L k).ln (sgAt L k).od b := by
  intro he
  have h1 := errOf_share (h k hk)
  have h2 : anyIx (fun j => shareB (sgAt (L.take k) j) (sgAt L k) && meetB (sgAt (L.take k) j).rl (sgAt L k).rl) (L.take k).length = true := by
    rw [anyIx_true]
    refine ⟨i, by simp; omega, ?_⟩
    rw [sgAt_take L k i hik, active_meet ai ak, Bool.and_true, shareB, anyIx_true]
    refine ⟨a, ha, ?_⟩
    rw [anyIx_true]
    exact ⟨b, hb, by simpa using he⟩
  rw [h2] at h1
  cases h1

theorem lay_test (st ln od v : Int) (n q : Nat) : (layTo st ln od v n).testBit q = true ↔ ∃ j, j < n ∧ bitv v j = 1 ∧ (place st ln od j).toNat = q := by
  induction n with
  | zero => simp [layTo]
  | succ n ih =>
    rw [layTo, Nat.testBit_or, Bool.or_eq_true, ih]
    have hb := bitv_lt v n
    constructor
    · rintro (⟨j, hj, h1, h2⟩ | h)
      · exact ⟨j, by omega, h1, h2⟩
      · obtain e | e : bitv v n = 0 ∨ bitv v n = 1 := by omega
        · rw [e] at h; simp at h
        · rw [e, Nat.one_mul, Nat.testBit_two_pow] at h
          exact ⟨n, by omega, e, by simpa using h⟩
    · rintro ⟨j, hj, h1, h2⟩
      by_cases e : j = n
      · subst e
        right
        rw [h1, Nat.one_mul, Nat.testBit_two_pow]
        simpa using h2
      · exact .inl ⟨j, by omega, h1, h2⟩

theorem bits_test (L : List Sg) (Z : List Int) (c : Int) (n q : Nat) : (bitsTo L Z c n).testBit q = true ↔ ∃ k, k < n ∧ activeB (sgAt L k).rl c = true ∧ ∃ j, j < (sgAt L k).ln.toNat ∧ bitv (zAt Z k) j = 1 ∧ (place (sgAt L k).st (sgAt L k).ln (sgAt L k).od j).toNat = q := by
  induction n with
  | zero => simp [bitsTo]
  | succ n ih =>
    rw [bitsTo]
    constructor
    · intro h
      split at h
      · rename_i ha
        rw [Nat.testBit_or, Bool.or_eq_true, ih, lay_test] at h
        rcases h with ⟨k, hk, h⟩ | h
        · exact ⟨k, by omega, h⟩
        · exact ⟨n, by omega, ha, h⟩
      · obtain ⟨k, hk, h⟩ := ih.1 h
        exact ⟨k, by omega, h⟩
    · rintro ⟨k, hk, ha, h⟩
      by_cases e : k = n
      · subst e
        rw [if_pos ha, Nat.testBit_or, Bool.or_eq_true, lay_test]
        exact .inr h
      · have := ih.2 ⟨k, by omega, ha, h⟩
        split
        · rw [Nat.testBit_or, this]; rfl
        · exact this

/-- Each bit of an active signal is laid by it alone. -/
theorem bit_own {L : List Sg} {Z : List Int} {sz c : Int} (hs : Sound L sz) (hg : Good L) {k : Nat} (hk : k < L.length) (ak : activeB (sgAt L k).rl c = true) {j : Nat} (hj : j < (sgAt L k).ln.toNat) :
    bitN (bitsTo L Z c L.length) (place (sgAt L k).st (sgAt L k).ln (sgAt L k).od j).toNat = bitv (zAt Z k) j := by
  have hb := bitv_lt (zAt Z k) j
  rw [bitN_test]
  cases ht : (bitsTo L Z c L.length).testBit (place (sgAt L k).st (sgAt L k).ln (sgAt L k).od j).toNat with
  | true =>
    rw [bits_test] at ht
    obtain ⟨i, hi, ai, a, ha, hv, hp⟩ := ht
    have oki := (hg.2 i hi).1
    have okk := (hg.2 k hk).1
    have p1 := place_lo (sgAt L i).st (sgAt L i).ln (sgAt L i).od a oki.st0 (by omega) (by omega)
    have p2 := place_lo (sgAt L k).st (sgAt L k).ln (sgAt L k).od j okk.st0 (by omega) (by omega)
    have hp' : place (sgAt L i).st (sgAt L i).ln (sgAt L i).od a = place (sgAt L k).st (sgAt L k).ln (sgAt L k).od j := by omega
    rcases Nat.lt_trichotomy i k with hlt | rfl | hlt
    · exact absurd hp' (apart hs hk hlt ai ak a j ha hj)
    · have := place_inj hp'
      have : a = j := by omega
      subst this
      rw [hv]; rfl
    · exact absurd hp'.symm (apart hs hi hlt ak ai j a hj ha)
  | false =>
    have : ¬ bitv (zAt Z k) j = 1 := by
      intro h1
      have h2 := (bits_test L Z c L.length (place (sgAt L k).st (sgAt L k).ln (sgAt L k).od j).toNat).2 ⟨k, hk, ak, j, hj, h1, rfl⟩
      rw [ht] at h2
      cases h2
    simp only [Bool.false_eq_true, if_false]
    omega

theorem heldTo_mod (st ln od : Int) (N x k : Nat) (h : ∀ j, j < k → bitN N (place st ln od j).toNat = x / 2 ^ j % 2) : heldTo st ln od N k = x % 2 ^ k := by
  induction k with
  | zero => simp [heldTo, Nat.mod_one]
  | succ k ih =>
    rw [heldTo, ih (fun j hj => h j (by omega)), h k (by omega), Nat.mod_pow_succ, Nat.mul_comm]

theorem heldV_own {st ln od kd v : Int} {N : Nat} (h0 : 1 ≤ ln) (h1 : ln ≤ 32) (hf : fitsB kd ln v = true) (h : ∀ j, j < ln.toNat → bitN N (place st ln od j).toNat = bitv v j) : heldV st ln od kd N = v := by
  have hb := fitsB_bounds hf
  have hn := fun (j : Nat) (hj : (j : Int) < ln) => natural_bit ln v j h0 h1 hj hb.1 hb.2
  obtain ⟨n0, n1, _⟩ := hn 0 (by omega)
  have hpw := pow_half ln h0
  have hpn : ((2 ^ ln.toNat : Nat) : Int) = 2 * half ln := by rw [← hpw]; simp
  have e : (heldTo st ln od N ln.toNat : Int) = natural ln v := by
    have h2 := heldTo_mod st ln od N (natural ln v).toNat ln.toNat (fun j hj => by
      rw [h j hj]
      have h3 := (hn j (by omega)).2.2
      have e3 : natural ln v = ((natural ln v).toNat : Int) := by omega
      rw [e3] at h3
      have e4 : (((natural ln v).toNat : Nat) : Int) / 2 ^ j % 2 = (((natural ln v).toNat / 2 ^ j % 2 : Nat) : Int) := by simp
      rw [e4] at h3
      omega)
    rw [h2, Nat.mod_eq_of_lt (by omega)]
    omega
  unfold heldV
  rw [e]
  unfold fitsB at hf
  have hp := half_pos ln
  by_cases hv : v < 0
  · have en : natural ln v = v + 2 * half ln := by rw [natural, if_pos hv]
    rw [en]
    split at hf
    · rename_i hk
      simp at hf
      rw [if_pos ⟨hk, by omega⟩]; omega
    · simp at hf; omega
  · have en : natural ln v = v := by rw [natural, if_neg hv]
    rw [en]
    split at hf
    · simp at hf
      rw [if_neg (fun hx => by have := hx.2; omega)]
    · rename_i hk
      rw [if_neg (fun hx => hk hx.1)]

/-- What the payload's text says as a number again. -/
theorem pay_back (B n : Nat) (q : Nat) (hq : q < 8 * n) : bitN (payTo (payB B n) (payB B n).size) q = bitN B q := by
  have hsz : (payB B n).size = n := by rw [payB, strOfNums_size, bytesL_len]
  have hq8 : q / 8 < n := by omega
  rw [hsz, payTo_bit _ _ _ hq8]
  have hb : (bt (payB B n) (q / 8)).toNat = byteOf B (q / 8) := by
    have hl : q / 8 < (payB B n).size := by omega
    rw [← bt_of hl, Int.toNat_natCast]
    have : (payB B n)[q / 8] = UInt8.ofNat ((byteOf B (q / 8) : Int)).toNat := by
      simp [payB, strOfNums, bytesL, ByteArray.getElem_eq_getElem_data]
    rw [this, Int.toNat_natCast, UInt8.toNat_ofNat', Nat.mod_eq_of_lt (byteOf_lt B _)]
  rw [hb]
  have e : byteOf B (q / 8) / 2 ^ (q % 8) % 2 = bitN (byteOf B (q / 8)) (q % 8) := rfl
  rw [e, bitN_test, bitN_test, byteOf_bit, show 8 * (q / 8) + q % 8 = q by omega]
  have : q % 8 < 8 := by omega
  simp [this]

/-- P6, a signal: what is held of what was laid. -/
theorem held_back {L : List Sg} {Z : List Int} {sz c : Int} (hs : Sound L sz) (hg : Good L) (hw : Within L sz) (h0 : 0 ≤ sz) {k : Nat} (hk : k < L.length) (ak : activeB (sgAt L k).rl c = true)
    (hf : fitsB (sgAt L k).kd (sgAt L k).ln (zAt Z k) = true) : held (sgAt L k) (payTo (payB (bitsTo L Z c L.length) sz.toNat) (payB (bitsTo L Z c L.length) sz.toNat).size) = zAt Z k := by
  have ok := (hg.2 k hk).1
  refine heldV_own ok.ln0 ok.ln1 hf (fun j hj => ?_)
  have p1 := place_lo (sgAt L k).st (sgAt L k).ln (sgAt L k).od j ok.st0 (by omega) (by omega)
  have p2 := hw k hk j (by omega)
  rw [pay_back _ _ _ (by omega)]
  exact bit_own hs hg hk ak hj

theorem mux_active {L : List Sg} {x : Nat} (h : (sgAt L x).rl = 77) (c : Int) : activeB (sgAt L x).rl c = true := by
  rw [h]; rfl

theorem choice_back {L : List Sg} {Z : List Int} {sz : Int} (hs : Sound L sz) (hg : Good L) (hw : Within L sz) (h0 : 0 ≤ sz) (hu : firstUn L Z (choiceOf L Z) < 0) :
    choiceN L (payTo (payB (bitsTo L Z (choiceOf L Z) L.length) sz.toNat) (payB (bitsTo L Z (choiceOf L Z) L.length) sz.toNat).size) = choiceOf L Z := by
  rcases mux_range L with hmx | ⟨x, hx, hmx, hr⟩
  · rw [choiceN, choiceOf, hmx]; rfl
  · have ax := mux_active hr (choiceOf L Z)
    have e : choiceOf L Z = zAt Z x := by rw [choiceOf, hmx, if_pos (by omega), Int.toNat_natCast]
    have h2 := held_back hs hg hw h0 hx ax (firstUn_none hu x hx ax)
    rw [choiceN, hmx, if_pos (by omega), Int.toNat_natCast, h2, e]

/-- The values of the active signals, 0 for the others. -/
def backAt (L : List Sg) (Z : List Int) (k : Nat) : Int := if activeB (sgAt L k).rl (choiceOf L Z) then zAt Z k else 0

theorem vals_back {L : List Sg} {Z : List Int} {sz : Int} (hs : Sound L sz) (hg : Good L) (hw : Within L sz) (h0 : 0 ≤ sz) (hu : firstUn L Z (choiceOf L Z) < 0) {k : Nat} (hk : k < L.length) :
    zAt (valsL L (payTo (payB (bitsTo L Z (choiceOf L Z) L.length) sz.toNat) (payB (bitsTo L Z (choiceOf L Z) L.length) sz.toNat).size) (choiceOf L Z) L.length) k = backAt L Z k := by
  rw [zAt, valsL, List.getD_eq_getElem?_getD, List.getElem?_map, List.getElem?_range hk]
  simp only [Option.map_some, Option.getD_some, valN, backAt]
  split
  · rename_i ak
    exact held_back hs hg hw h0 hk ak (firstUn_none hu k hk ak)
  · rfl

end Go.Proofs.Ytljodhcfimklkaa
