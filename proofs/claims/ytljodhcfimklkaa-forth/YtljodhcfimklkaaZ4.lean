import Derived.Test.YtljodhcfimklkaaZ1
import Derived.Test.YtljodhcfimklkaaY6
namespace Go.Proofs.Ytljodhcfimklkaa
open Go.RowKit

theorem heldTo_bit (st ln od : Int) (N k j : Nat) (hj : j < k) : heldTo st ln od N k / 2 ^ j % 2 = bitN N (place st ln od j).toNat := by
  induction k with
  | zero => omega
  | succ k ih =>
    have hlt := heldTo_lt st ln od N k
    have hb := bitN_lt N (place st ln od k).toNat
    have e0 : heldTo st ln od N (k + 1) / 2 ^ j % 2 = bitN (heldTo st ln od N (k + 1)) j := rfl
    have ht : (heldTo st ln od N (k + 1)).testBit j = if j < k then (heldTo st ln od N k).testBit j else (bitN N (place st ln od k).toNat).testBit (j - k) := by
      rw [heldTo, Nat.add_comm, Nat.mul_comm, Nat.testBit_two_pow_mul_add _ hlt]
    rw [e0, bitN_test, ht]
    by_cases e : j = k
    · subst e
      have e1 : ¬ j < j := by omega
      simp only [e1, if_false, Nat.sub_self]
      obtain h | h : bitN N (place st ln od j).toNat = 0 ∨ bitN N (place st ln od j).toNat = 1 := by omega
      · rw [h]; rfl
      · rw [h]; rfl
    · have e1 : j < k := by omega
      simp only [e1, if_true]
      rw [← bitN_test]
      exact ih e1

theorem held_nat {st ln od kd : Int} {N : Nat} (h0 : 1 ≤ ln) : natural ln (heldV st ln od kd N) = (heldTo st ln od N ln.toNat : Int) ∧ -(half ln) ≤ heldV st ln od kd N ∧ heldV st ln od kd N < 2 * half ln := by
  have hlt := heldTo_lt st ln od N ln.toNat
  have hpw := pow_half ln h0
  have hpn : ((2 ^ ln.toNat : Nat) : Int) = 2 * half ln := by rw [← hpw]; simp
  have hp := half_pos ln
  unfold heldV
  split
  · rename_i h
    have := h.2
    rw [natural, if_pos (by omega)]
    omega
  · rw [natural, if_neg (by omega)]
    omega

theorem heldV_fits {st ln od kd : Int} {N : Nat} (h0 : 1 ≤ ln) : fitsB kd ln (heldV st ln od kd N) = true := by
  have hlt := heldTo_lt st ln od N ln.toNat
  have hpw := pow_half ln h0
  have hpn : ((2 ^ ln.toNat : Nat) : Int) = 2 * half ln := by rw [← hpw]; simp
  have hp := half_pos ln
  unfold fitsB heldV
  split
  · rename_i hk
    split
    · rename_i h
      have := h.2
      simp; omega
    · rename_i h
      have : ¬ half ln ≤ (heldTo st ln od N ln.toNat : Int) := fun hx => h ⟨hk, hx⟩
      simp; omega
  · rename_i hk
    rw [if_neg (fun hx => hk hx.1)]
    simp; omega

/-- The bits of what a signal holds are its bits. -/
theorem held_bit {st ln od kd : Int} {N : Nat} (h0 : 1 ≤ ln) (h1 : ln ≤ 32) {j : Nat} (hj : (j : Int) < ln) : bitv (heldV st ln od kd N) j = bitN N (place st ln od j).toNat := by
  obtain ⟨e, b1, b2⟩ := held_nat (st := st) (od := od) (kd := kd) (N := N) h0
  have h := (natural_bit ln _ j h0 h1 hj b1 b2).2.2
  rw [e] at h
  have e4 : ((heldTo st ln od N ln.toNat : Nat) : Int) / 2 ^ j % 2 = ((heldTo st ln od N ln.toNat / 2 ^ j % 2 : Nat) : Int) := by simp
  rw [e4, heldTo_bit _ _ _ _ _ _ (by omega)] at h
  omega

theorem zAt_vals (L : List Sg) (N : Nat) (c : Int) {n k : Nat} (hk : k < n) : zAt (valsL L N c n) k = valN L N c k := by
  rw [zAt, valsL, List.getD_eq_getElem?_getD, List.getElem?_map, List.getElem?_range hk]; rfl

theorem choice_vals (L : List Sg) (N : Nat) : choiceOf L (valsL L N (choiceN L N) L.length) = choiceN L N := by
  rcases mux_range L with hmx | ⟨x, hx, hmx, hr⟩
  · rw [choiceN, choiceOf, hmx]; rfl
  · rw [choiceOf, hmx, if_pos (by omega), Int.toNat_natCast, zAt_vals L N _ hx, valN, if_pos (mux_active hr _)]
    rw [choiceN, hmx, if_pos (by omega), Int.toNat_natCast]

theorem unfit_vals {L : List Sg} (hg : Good L) (N : Nat) (c : Int) : firstUn L (valsL L N c L.length) c < 0 := by
  rw [firstUn, findIx_none]
  · omega
  · intro k hk
    have ok := (hg.2 k hk).1
    rw [unfit, zAt_vals L N c hk, valN]
    cases ha : activeB (sgAt L k).rl c with
    | false => rfl
    | true => rw [if_pos rfl, held, heldV_fits ok.ln0]; rfl

/-- P6: what is packed of what was unpacked. -/
theorem pk_forth {s id : ByteArray} {N : Nat} {M : List Mg} {k : Nat} (hz : chkE s = 0) (hp : pDb s 4 0 = .inr M) (hk : k < M.length) (hix : msgIx M id = k) :
    pk s id (valsL (mAt M k).sigs N (choiceN (mAt M k).sigs N) (mAt M k).sigs.length) = (payB (bitsTo (mAt M k).sigs (valsL (mAt M k).sigs N (choiceN (mAt M k).sigs N) (mAt M k).sigs.length) (choiceN (mAt M k).sigs N) (mAt M k).sigs.length) (mAt M k).sz.toNat, 0, 0) := by
  have hu := unfit_vals (good_of hp hk).2 N (choiceN (mAt M k).sigs N)
  rw [pk_msg hz hp hix, pkMsg, if_neg (by rw [valsL_len]; simp), choice_vals, if_neg (by omega)]

theorem up_ok {s id p : ByteArray} (h : (up s id p).2.2.1 = 0) : chkE s = 0 ∧ ¬ 320 < s.size ∧ ¬ 8 < p.size ∧ ∃ M k, pDb s 4 0 = .inr M ∧ k < M.length ∧ msgIx M id = (k : Nat) ∧ (p.size : Int) = (mAt M k).sz ∧
    (up s id p).1 = valsL (mAt M k).sigs (payTo p p.size) (choiceN (mAt M k).sigs (payTo p p.size)) (mAt M k).sigs.length := by
  have h8 : ¬ 8 < p.size := by
    intro h8; rw [up_long h8] at h; simp at h
  have hz : chkE s = 0 := by
    by_cases hz : chkE s = 0
    · exact hz
    · rw [up_bad h8 hz] at h; exact h
  have hl : ¬ 320 < s.size := by
    intro hl
    rw [(chk_long hl).1] at hz; omega
  refine ⟨hz, hl, h8, ?_⟩
  cases hp : pDb s 4 0 with
  | inl p => rw [(chk_text hl hp).1] at hz; omega
  | inr M =>
    rcases findIx_cases (fun k => decide ((mAt M k).id = id)) M.length with ⟨hn, _⟩ | ⟨k, hk, hkk, _⟩
    · rw [up_id h8 hz hp hn] at h; simp at h
    · have e : msgIx M id = k := hkk
      have hm := up_msg h8 hz hp e
      rw [hm] at h ⊢
      rw [upMsg] at h
      split at h
      · simp at h
      · rename_i hln
        refine ⟨M, k, rfl, hk, e, by omega, ?_⟩
        rw [upMsg, if_neg hln]

end Go.Proofs.Ytljodhcfimklkaa
