import Derived.Test.YtljodhcfimklkabE
namespace Go.Proofs.Ytljodhcfimklkab
open Go.RowKit

theorem ret_u64 {a b : Int} (h : a = b) : Ending.returned (.int .u64 a) = .returned (.int .u64 b) := by rw [h]

theorem place_lo (st ln od i : Int) (h0 : 0 ≤ st) (h5 : 0 ≤ i) (h6 : i < ln) : 0 ≤ place st ln od i := by
  unfold place
  split
  · omega
  · unfold mir; omega
theorem place_hi (st ln od i : Int) (h0 : 0 ≤ st) (h1 : st ≤ 63) (h3 : ln ≤ 32) (h5 : 0 ≤ i) (h6 : i < ln) : place st ln od i ≤ 200 := by
  unfold place
  split
  · omega
  · unfold mir; omega

/-- Bit k of a number as a uint64. -/
def bitv (v : Int) (k : Nat) : Nat := ((v % 18446744073709551616) / 2 ^ k % 2).toNat
theorem bitv_lt (v : Int) (k : Nat) : bitv v k < 2 := by unfold bitv; omega
/-- The payload's number behind k bits of a signal. -/
def layTo (st ln od v : Int) : Nat → Nat
  | 0 => 0
  | k + 1 => layTo st ln od v k ||| (bitv v k * 2 ^ (place st ln od k).toNat)

theorem bit_pow_lt (b p : Nat) (hb : b < 2) (hp : p ≤ 63) : b * 2 ^ p < 18446744073709551616 := by
  have h : 2 ^ p ≤ 2 ^ 63 := Nat.pow_le_pow_right (by omega) hp
  have e : (2 : Nat) ^ 63 = 9223372036854775808 := rfl
  rw [e] at h
  obtain rfl | rfl : b = 0 ∨ b = 1 := by omega
  · omega
  · omega

theorem layTo_lt (st ln od v : Int) (n : Nat) (hp : ∀ i : Int, 0 ≤ i → i < n → 0 ≤ place st ln od i ∧ place st ln od i ≤ 63) : layTo st ln od v n < 18446744073709551616 := by
  induction n with
  | zero => simp [layTo]
  | succ k ih =>
    have e : (18446744073709551616 : Nat) = 2 ^ 64 := rfl
    have h1 := ih (fun i h h' => hp i h (by omega))
    have h2 := bit_pow_lt (bitv v k) (place st ln od k).toNat (bitv_lt v k) (by have := hp k (by omega) (by omega); omega)
    rw [e] at h1 h2 ⊢
    exact Nat.or_lt_two_pow h1 h2

theorem lay_step (st ln od v : Int) (k : Nat) (h : layTo st ln od v k < 18446744073709551616) (h0 : 0 ≤ place st ln od k) (h1 : place st ln od k ≤ 63) :
    bits BinOp.or IntKind.u64 (layTo st ln od v k : Int) (IntKind.u64.wrap (bits BinOp.and IntKind.u64 (IntKind.u64.wrap v / 2 ^ k) 1 * 2 ^ (place st ln od k).toNat)) = (layTo st ln od v (k + 1) : Nat) := by
  have hb := bitv_lt v k
  have hp := bit_pow_lt (bitv v k) (place st ln od k).toNat hb (by omega)
  have e1 : bits BinOp.and IntKind.u64 (IntKind.u64.wrap v / 2 ^ k) 1 = (bitv v k : Int) := by
    rw [IntKind.wrap_u64]
    have h2 : (0 : Int) ≤ v % 18446744073709551616 / 2 ^ k := Int.ediv_nonneg (by omega) (Int.le_of_lt (Int.pow_pos (by omega)))
    have h3 : v % 18446744073709551616 / 2 ^ k ≤ v % 18446744073709551616 := Int.ediv_le_self _ (by omega)
    rw [and_one_u64 _ h2 (by omega), bitv]
    omega
  rw [e1]
  have e2 : ((bitv v k : Int) * 2 ^ (place st ln od k).toNat) = ((bitv v k * 2 ^ (place st ln od k).toNat : Nat) : Int) := by simp
  rw [e2, IntKind.wrap_u64]
  have e3 : ((bitv v k * 2 ^ (place st ln od k).toNat : Nat) : Int) % 18446744073709551616 = ((bitv v k * 2 ^ (place st ln od k).toNat : Nat) : Int) := by omega
  rw [e3, u64_or_nat _ _ h hp]
  rfl

/-- The world behind a boxed parameter, and what is read of it. -/
theorem box_cell {w wr : World} {o : Obj} (hb : Below (w.heap.size + 1) (w.alloc o) wr) (j : Nat) : wr.cell? ⟨w.heap.size, j, none⟩ = (w.alloc o).cell? ⟨w.heap.size, j, none⟩ :=
  hb.cell (p := ⟨w.heap.size, j, none⟩) (by simp)
theorem box_below {w wr : World} {o : Obj} (hb : Below (w.heap.size + 1) (w.alloc o) wr) : Below w.heap.size w wr :=
  ((Below.refl _ _).alloc (Nat.le_refl _) _).trans (hb.mono (by omega))
theorem box_next {w wr w' : World} {o : Obj} (hb : Below (w.heap.size + 1) (w.alloc o) wr) (h : Below wr.heap.size wr w') : Below (w.heap.size + 1) (w.alloc o) w' :=
  hb.trans (h.mono (by have := hb.size; simp at this; omega))

set_option maxHeartbeats 400000 in
theorem layBits_any (a0 a1 st ln od a5 a6 v : Int) (w : World) (h0 : 0 ≤ st) (h1 : st ≤ 63) (h2 : 1 ≤ ln) (h3 : ln ≤ 32) (h4 : od = 60 ∨ od = 62) (hp : ∀ i, 0 ≤ i → i < ln → place st ln od i ≤ 63) :
    Calls Try.prog 30 #[.agg #[.int .i64 a0, .int .u8 a1, .int .i64 st, .int .i64 ln, .int .u8 od, .int .u8 a5, .int .u8 a6], .int .i64 v] w
      fun e w' => e = .returned (.int .u64 (layTo st ln od v ln.toNat)) ∧ Below w.heap.size w w' := by
  have H4 := hide h4
  have HP := hide hp
  clear h4 hp
  go_enter Try.func30, Try.ntmps30
  go_wp2
  go_loopw [5, 6, 7, 8] (fun b i _ _ wr => ∃ k : Nat, (k : Int) ≤ ln ∧ i = .int .i64 k ∧ b = .int .u64 (layTo st ln od v k) ∧ Below (w.heap.size + 1) (w.alloc (.cells #[.int .i64 a0, .int .u8 a1, .int .i64 st, .int .i64 ln, .int .u8 od, .int .u8 a5, .int .u8 a6] 73)) wr) (fun _ i _ _ _ => (ln - intOf i).toNat)
  case atStart => exact ⟨0, by omega, rfl, rfl, Below.refl _ _⟩
  case round =>
    obtain ⟨k, hk, rfl, rfl, hb⟩ := hrel
    have HB := hide hb
    have hc := box_cell hb
    clear hb
    by_cases hlt : (k : Int) < ln
    · have hp0 := place_lo st ln od k h0 (by omega) hlt
      have hp1 := unhide HP k (by omega) hlt
      have hlt64 := layTo_lt st ln od v k (fun i h h' => ⟨place_lo st ln od i h0 h (by omega), unhide HP i h (by omega)⟩)
      have HS := hide (lay_step st ln od v k hlt64 hp0 hp1)
      go_wp2_with fail
      refine (bitPlace_any a0 a1 st ln od a5 a6 k wr h0 h1 h2 h3 (unhide H4) (by omega) hlt).mono ?_
      rintro e w' ⟨rfl, hb'⟩
      go_wp2
      go_roundw
      case rel => exact ⟨k + 1, by omega, by go_num, by rw [unhide HS], box_next (unhide HB) hb'⟩
      case measure => simp [intOf]; omega
    · have hk2 : ln.toNat = k := by omega
      have HK := hide hk2
      clear hk2
      go_wp2
      go_ret
      exact ⟨ret_u64 (by rw [unhide HK]), box_below (unhide HB)⟩

set_option maxHeartbeats 400000 in
theorem reaches_any (a0 a1 st ln od a5 a6 p : Int) (w : World) (h0 : 0 ≤ st) (h1 : st ≤ 63) (h2 : 1 ≤ ln) (h3 : ln ≤ 32) (h4 : od = 60 ∨ od = 62) :
    Calls Try.prog 64 #[.agg #[.int .i64 a0, .int .u8 a1, .int .i64 st, .int .i64 ln, .int .u8 od, .int .u8 a5, .int .u8 a6], .int .i64 p] w
      fun e w' => e = .returned (.bool (anyIx (fun k => decide (p ≤ place st ln od k)) ln.toNat)) ∧ Below w.heap.size w w' := by
  have H4 := hide h4
  clear h4
  go_enter Try.func64, Try.ntmps64
  go_wp2
  go_loopw [5] (fun i wr => ∃ k : Nat, (k : Int) ≤ ln ∧ i = .int .i64 k ∧ (∀ j, j < k → decide (p ≤ place st ln od j) = false) ∧ Below (w.heap.size + 1) (w.alloc (.cells #[.int .i64 a0, .int .u8 a1, .int .i64 st, .int .i64 ln, .int .u8 od, .int .u8 a5, .int .u8 a6] 73)) wr) (fun i _ => (ln - intOf i).toNat)
  case atStart => exact ⟨0, by omega, rfl, by intro j hj; omega, Below.refl _ _⟩
  case round =>
    obtain ⟨k, hk, rfl, hno, hb⟩ := hrel
    have HN := hide hno
    have HB := hide hb
    have hc := box_cell hb
    clear hb hno
    by_cases hlt : (k : Int) < ln
    · by_cases hpk : p ≤ place st ln od k
      · go_wp2_with fail
        refine (bitPlace_any a0 a1 st ln od a5 a6 k wr h0 h1 h2 h3 (unhide H4) (by omega) hlt).mono ?_
        rintro e w' ⟨rfl, hb'⟩
        go_wp2
        go_ret
        exact ⟨ret_bool (by rw [anyIx_is (unhide HN) (by omega) (by simpa using hpk)]), box_below (box_next (unhide HB) hb')⟩
      · go_wp2_with fail
        refine (bitPlace_any a0 a1 st ln od a5 a6 k wr h0 h1 h2 h3 (unhide H4) (by omega) hlt).mono ?_
        rintro e w' ⟨rfl, hb'⟩
        go_wp2
        go_roundw
        case rel => exact ⟨k + 1, by omega, by go_num, fun j hj => by
            by_cases e : j = k
            · subst e; simp; omega
            · exact unhide HN j (by omega), box_next (unhide HB) hb'⟩
        case measure => simp [intOf]; omega
    · go_wp2
      go_ret
      exact ⟨ret_bool (by rw [anyIx_none (fun j hj => unhide HN j (by omega))]), box_below (unhide HB)⟩

set_option maxHeartbeats 400000 in
theorem hasName_any (v : Value) (L : List Sg) (c : Int) (w : World) (h : SigsAt w v L) (hl : L.length ≤ 8) :
    Calls Try.prog 63 #[v, .int .u8 c] w fun e w' => e = .returned (.bool (anyIx (fun k => decide ((sgAt L k).nm = c)) L.length)) ∧ w' = w := by
  rcases h.opened with ⟨rfl, a, cc, rfl⟩ | ⟨g, cap, rfl, _, hcap, _, hc⟩
  · go_enter Try.func63, Try.ntmps63
    go_wp2
    refine wp_loop_rounds 1 ?_
    rw [rounds_succ]
    go_wp2
    go_ret
    exact ⟨ret_bool (by simp [anyIx]), rfl⟩
  · have HC := hide hc
    clear hc
    go_enter Try.func63, Try.ntmps63
    go_wp2
    go_loop [5] (fun i => ∃ k : Nat, k ≤ L.length ∧ i = .int .i64 k ∧ ∀ j, j < k → decide ((sgAt L j).nm = c) = false) (fun i => L.length - (intOf i).toNat)
    case atStart => exact ⟨0, by omega, rfl, by intro j hj; omega⟩
    case round =>
      obtain ⟨k, hk, rfl, hno⟩ := hrel
      have HN := hide hno
      clear hno
      by_cases hlt : k < L.length
      · have hc6 : w.cell? ⟨g, k * 7 + 1, none⟩ = some (.int .u8 (sgAt L k).nm) := (unhide HC) k 1 hlt (by omega)
        by_cases hm : (sgAt L k).nm = c
        · have hmb : ((sgAt L k).nm == c) = true := by simp [hm]
          have HM := hide hm
          clear hm
          go_wp2
          go_ret
          exact ⟨ret_bool (by rw [anyIx_is (unhide HN) hlt (by simpa using unhide HM)]), rfl⟩
        · have hmb : ((sgAt L k).nm == c) = false := by simp [hm]
          have HM := hide hm
          clear hm
          go_wp2
          go_round
          case rel => exact ⟨k + 1, by omega, by go_num, fun j hj => by
            by_cases e : j = k
            · subst e; simpa using unhide HM
            · exact unhide HN j (by omega)⟩
          case measure => simp [intOf]; omega
      · go_wp2
        go_ret
        exact ⟨ret_bool (by rw [anyIx_none (fun j hj => unhide HN j (by omega))]), rfl⟩

/-- Can two signals of these roles be active together? -/
def meetB (a b : Int) : Bool := decide (a = b) || !isDigB a || !isDigB b

set_option maxHeartbeats 400000 in
theorem canMeet_any (a0 a1 a2 a3 a4 a5 a b0 b1 b2 b3 b4 b5 b : Int) (w : World) :
    Calls Try.prog 66 #[.agg #[.int .i64 a0, .int .u8 a1, .int .i64 a2, .int .i64 a3, .int .u8 a4, .int .u8 a5, .int .u8 a], .agg #[.int .i64 b0, .int .u8 b1, .int .i64 b2, .int .i64 b3, .int .u8 b4, .int .u8 b5, .int .u8 b]] w
      fun e w' => e = .returned (.bool (meetB a b)) ∧ Below w.heap.size w w' := by
  cases h1 : isDigB a <;> cases h2 : isDigB b <;> by_cases h3 : (a == b) = true
  all_goals
    go_enter Try.func66, Try.ntmps66
    go_wp2_with (go_at_call 45; refine (isDigit_any _ _).mono ?_; rintro e w' ⟨rfl, rfl⟩)
    go_ret
    exact ⟨ret_bool (by simp_all [meetB]), ((Below.refl _ _).alloc (Nat.le_refl _) _).alloc (by simp) _⟩

end Go.Proofs.Ytljodhcfimklkab
