import Derived.Test.YtljodhcfimklkaaV2
namespace Go.Proofs.Ytljodhcfimklkaa
open Go.RowKit

/-- Bit q of a payload's number. -/
def bitN (N q : Nat) : Nat := N / 2 ^ q % 2
theorem bitN_lt (N q : Nat) : bitN N q < 2 := Nat.mod_lt _ (by omega)
/-- What the first k bits of a signal are worth together. -/
def heldTo (st ln od : Int) (N : Nat) : Nat → Nat
  | 0 => 0
  | k + 1 => heldTo st ln od N k + bitN N (place st ln od k).toNat * 2 ^ k
theorem heldTo_lt (st ln od : Int) (N k : Nat) : heldTo st ln od N k < 2 ^ k := by
  induction k with
  | zero => simp [heldTo]
  | succ k ih =>
    have hb := bitN_lt N (place st ln od k).toNat
    rw [heldTo, Nat.pow_succ]
    obtain h | h : bitN N (place st ln od k).toNat = 0 ∨ bitN N (place st ln od k).toNat = 1 := by omega
    · rw [h]; omega
    · rw [h]; omega
/-- What a signal holds in a payload. -/
def heldV (st ln od kd : Int) (N : Nat) : Int := if kd = 115 ∧ half ln ≤ (heldTo st ln od N ln.toNat : Int) then (heldTo st ln od N ln.toNat : Int) - 2 * half ln else (heldTo st ln od N ln.toNat : Int)

theorem held_and (N : Nat) (q : Nat) (hN : N < 18446744073709551616) : bits BinOp.and IntKind.u64 ((N : Int) / 2 ^ q) 1 = (bitN N q : Int) := by
  have e : ((N : Int) / 2 ^ q) = ((N / 2 ^ q : Nat) : Int) := by simp
  have hle : N / 2 ^ q ≤ N := Nat.div_le_self _ _
  rw [e]
  generalize hx : N / 2 ^ q = x at *
  rw [and_one_u64 (x : Int) (by omega) (by omega), bitN, hx]; omega
theorem pow32 (k : Nat) (h : k ≤ 32) : (2 : Int) ^ k ≤ 4294967296 ∧ 1 ≤ (2 : Int) ^ k := by
  have h1 : (2 : Nat) ^ k ≤ 2 ^ 32 := Nat.pow_le_pow_right (by omega) h
  have e1 : (2 : Nat) ^ 32 = 4294967296 := rfl
  have e : ((2 : Int) ^ k) = ((2 ^ k : Nat) : Int) := by simp
  have h2 : 0 < 2 ^ k := Nat.two_pow_pos k
  rw [e]; omega

theorem held_step (st ln od : Int) (N k : Nat) (hk : k ≤ 31) (b : Nat) (hb : b = bitN N (place st ln od k).toNat) : wrap64 ((heldTo st ln od N k : Int) + wrap64 ((b : Int) * 2 ^ k)) = (heldTo st ln od N (k + 1) : Int) := by
  have hl := bitN_lt N (place st ln od k).toNat
  have h1 := pow32 k (by omega)
  have h2 := heldTo_lt st ln od N k
  have e : ((2 : Int) ^ k) = ((2 ^ k : Nat) : Int) := by simp
  rw [heldTo, ← hb]
  rw [← hb] at hl
  rw [e] at h1 ⊢
  generalize 2 ^ k = y at *
  generalize heldTo st ln od N k = x at *
  obtain rfl | rfl : b = 0 ∨ b = 1 := by omega
  · simp only [wrap64]; omega
  · simp only [wrap64]; omega

set_option maxRecDepth 100000 in
set_option maxHeartbeats 1000000 in
theorem heldValue_any (a0 a1 st ln od kd a6 : Int) (N : Nat) (w : World) (h0 : 0 ≤ st) (h1 : st ≤ 63) (h2 : 1 ≤ ln) (h3 : ln ≤ 32) (h4 : od = 60 ∨ od = 62) (h5 : kd = 117 ∨ kd = 115) (hp : ∀ i, 0 ≤ i → i < ln → place st ln od i ≤ 63) (hN : N < 18446744073709551616) :
    Calls Try.prog 76 #[.agg #[.int .i64 a0, .int .u8 a1, .int .i64 st, .int .i64 ln, .int .u8 od, .int .u8 kd, .int .u8 a6], .int .u64 N] w
      fun e w' => e = .returned (.int .i64 (heldV st ln od kd N)) ∧ Below w.heap.size w w' := by
  have H4 := hide h4
  have H5 := hide h5
  have HP := hide hp
  have HN := hide hN
  clear h4 h5 hp hN
  go_enter Try.func76, Try.ntmps76
  go_wp2
  go_loopw [5, 6, 7, 8] (fun v i _ _ wr => ∃ k : Nat, (k : Int) ≤ ln ∧ i = .int .i64 k ∧ v = .int .i64 (heldTo st ln od N k) ∧ Below (w.heap.size + 1) (w.alloc (.cells #[.int .i64 a0, .int .u8 a1, .int .i64 st, .int .i64 ln, .int .u8 od, .int .u8 kd, .int .u8 a6] 121)) wr) (fun _ i _ _ _ => (ln - intOf i).toNat)
  case atStart => exact ⟨0, by omega, rfl, rfl, Below.refl _ _⟩
  case round =>
    obtain ⟨k, hk, rfl, rfl, hb⟩ := hrel
    have HB := hide hb
    have hc := box_cell hb
    clear hb
    have hht := heldTo_lt st ln od N k
    have hp32 := pow32 k (by omega)
    have hhb : (heldTo st ln od N k : Int) < 2 ^ k := by have e : ((2 : Int) ^ k) = ((2 ^ k : Nat) : Int) := by simp
                                                         rw [e]; omega
    by_cases hlt : (k : Int) < ln
    · have hp0 := place_lo st ln od k h0 (by omega) hlt
      have hp1 := unhide HP k (by omega) hlt
      have hand := held_and N (place st ln od k).toNat (unhide HN)
      obtain ⟨bq, HBQ⟩ : ∃ b : Nat, Hid (b = bitN N (place st ln od k).toNat) := ⟨_, hide rfl⟩
      rw [← unhide HBQ] at hand
      have hbl : bq < 2 := by rw [unhide HBQ]; exact bitN_lt _ _
      have HHT := hide hht
      have HHB := hide hhb
      have HP32 := hide hp32
      clear hht hp32 hhb
      go_wp2_with fail
      refine (bitPlace_any a0 a1 st ln od kd a6 k wr h0 h1 h2 h3 (unhide H4) (by omega) hlt).mono ?_
      rintro e w' ⟨rfl, hb'⟩
      go_wp2
      go_roundw
      case rel => exact ⟨k + 1, by omega, by go_num, by rw [held_step st ln od N k (by omega) bq (unhide HBQ)], box_next (unhide HB) hb'⟩
      case measure => simp [intOf]; omega
    · have hkn : ln.toNat = k := by omega
      have hub : (heldTo st ln od N k : Int) < 2 * half ln := by rw [← pow_half ln h2, hkn]; exact hhb
      have HV0 := hide (show kd = 117 → heldV st ln od kd N = (heldTo st ln od N k : Int) by intro hk1; rw [heldV, hkn, if_neg (fun hx => by omega)])
      have HV1 := hide (show kd = 115 → heldV st ln od kd N = extV (heldTo st ln od N k : Int) ln by
        intro hk1
        rw [heldV, hkn, extV, Int.emod_eq_of_lt (by omega) hub]
        by_cases hge : half ln ≤ (heldTo st ln od N k : Int)
        · rw [if_pos ⟨hk1, hge⟩, if_pos hge]
        · rw [if_neg (fun hx => hge hx.2), if_neg hge])
      generalize heldTo st ln od N k = x at *
      clear hht hhb hp32 hkn hub
      rcases unhide H5 with rfl | rfl
      · go_wp2
        go_ret
        exact ⟨ret_int (by rw [unhide HV0 (by first | rfl | trivial)]), box_below (unhide HB)⟩
      · go_wp2_with fail
        refine (extended_any _ ln _ h2 h3).mono ?_
        rintro e w' ⟨rfl, rfl⟩
        go_wp2
        go_ret
        exact ⟨ret_int (by rw [unhide HV1 (by first | rfl | trivial)]), box_below (unhide HB)⟩

/-- The number that a payload is. -/
def payTo (p : ByteArray) : Nat → Nat
  | 0 => 0
  | k + 1 => payTo p k ||| ((bt p k).toNat * 2 ^ (8 * k))
theorem payTo_lt (p : ByteArray) (k : Nat) : payTo p k < 2 ^ (8 * k) := by
  induction k with
  | zero => simp [payTo]
  | succ k ih =>
    rw [payTo]
    have h1 := bt_lo p k
    have h2 := bt_hi p k
    refine Nat.or_lt_two_pow (Nat.lt_of_lt_of_le ih (Nat.pow_le_pow_right (by omega) (by omega))) ?_
    rw [show 8 * (k + 1) = 8 + 8 * k by omega, Nat.pow_add]
    exact Nat.mul_lt_mul_of_pos_right (by omega) (Nat.two_pow_pos _)
theorem payTo_64 (p : ByteArray) (k : Nat) (h : k ≤ 8) : payTo p k < 18446744073709551616 := by
  have e : (18446744073709551616 : Nat) = 2 ^ 64 := rfl
  rw [e]
  exact Nat.lt_of_lt_of_le (payTo_lt p k) (Nat.pow_le_pow_right (by omega) (by omega))
theorem pay_step (p : ByteArray) (k : Nat) (hk : k < p.size) (h8 : k < 8) : bits BinOp.or IntKind.u64 (payTo p k : Int) (IntKind.u64.wrap (IntKind.u64.wrap (p[k].toNat : Int) * 2 ^ (8 * k))) = (payTo p (k + 1) : Nat) := by
  have hin : IntKind.u64.wrap (p[k].toNat : Int) = (p[k].toNat : Int) := by have := (p[k]).toNat_lt; rw [IntKind.wrap_u64]; omega
  rw [hin]
  have e0 := bt_of hk
  have h1 := bt_lo p k
  have h2 := bt_hi p k
  have e1 : (p[k].toNat : Int) * 2 ^ (8 * k) = (((bt p k).toNat * 2 ^ (8 * k) : Nat) : Int) := by
    rw [e0]
    have : bt p k = ((bt p k).toNat : Int) := by omega
    rw [this]; simp
  have hlt : (bt p k).toNat * 2 ^ (8 * k) < 18446744073709551616 := by
    have e : (18446744073709551616 : Nat) = 2 ^ 64 := rfl
    rw [e]
    refine Nat.lt_of_lt_of_le ?_ (Nat.pow_le_pow_right (n := 2) (by omega) (show 8 + 8 * k ≤ 64 by omega))
    rw [Nat.pow_add]
    exact Nat.mul_lt_mul_of_pos_right (by omega) (Nat.two_pow_pos _)
  rw [e1, IntKind.wrap_u64]
  generalize hy : (bt p k).toNat * 2 ^ (8 * k) = y at *
  rw [show (y : Int) % 18446744073709551616 = (y : Int) by omega, u64_or_nat _ _ (payTo_64 p k (by omega)) hlt, payTo, hy]

set_option maxRecDepth 100000 in
set_option maxHeartbeats 1000000 in
theorem payloadBits_any (p : ByteArray) (w : World) (h8 : p.size ≤ 8) :
    Calls Try.prog 48 #[.string p] w fun e w' => e = .returned (.int .u64 (payTo p p.size)) ∧ w' = w := by
  go_enter Try.func48, Try.ntmps48
  go_wp2
  go_loop [3, 4] (fun b i => ∃ k : Nat, k ≤ p.size ∧ i = .int .i64 k ∧ b = .int .u64 (payTo p k)) (fun _ i => p.size - (intOf i).toNat)
  case atStart => exact ⟨0, by omega, rfl, rfl⟩
  case round =>
    obtain ⟨k, hk, rfl, rfl⟩ := hrel
    by_cases hlt : k < p.size
    · have HS := hide (pay_step p k hlt (by omega))
      have hph := payTo_64 p k (by omega)
      go_wp2
      go_round
      case rel => exact ⟨k + 1, by omega, by go_num, by rw [← unhide HS]⟩
      case measure => simp [intOf]; omega
    · have hkn : k = p.size := by omega
      have HK := hide hkn
      clear hkn
      go_wp2
      go_ret
      exact ⟨ret_u64 (by rw [unhide HK]), rfl⟩

end Go.Proofs.Ytljodhcfimklkaa
