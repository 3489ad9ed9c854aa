import Derived.Test.YtljodhcfimklkabD
namespace Go.Proofs.Ytljodhcfimklkab
open Go.RowKit

/-- Byte k of a text, as a number. -/
def bt (s : ByteArray) (k : Nat) : Int := if h : k < s.size then (s[k].toNat : Int) else 0
theorem bt_of {s : ByteArray} {k : Nat} (h : k < s.size) : (s[k].toNat : Int) = bt s k := by simp [bt, h]
theorem bt_lo (s : ByteArray) (k : Nat) : 0 ≤ bt s k := by unfold bt; split <;> omega
theorem bt_hi (s : ByteArray) (k : Nat) : bt s k ≤ 255 := by
  unfold bt
  split
  · have := (s[k]).toNat_lt; omega
  · omega

/-- Byte k of the head (the signal) at i is right. -/
def headOk (s : ByteArray) (i k : Nat) : Bool := decide (i + k < s.size) && headB k (bt s (i + k))
def befB (s : ByteArray) (i k : Nat) : Int := if k = 0 then 0 else bt s (i + k - 1)
def sigOk (s : ByteArray) (i k : Nat) : Bool := decide (i + k < s.size) && sigB k (befB s i k) (bt s (i + k))
/-- How many bytes from i on are right ones of a head, of a signal. -/
def nHead (s : ByteArray) (i : Nat) : Nat := firstIx (fun k => !headOk s i k) 4
def nSig (s : ByteArray) (i : Nat) : Nat := firstIx (fun k => !sigOk s i k) 9

theorem not_false_of {b : Bool} (h : b = true) : (!b) = false := by simp [h]

set_option maxHeartbeats 400000 in
theorem rightHead_any (s : ByteArray) (i : Nat) (w : World) (hs : s.size ≤ 320) (hi : i ≤ 1000) :
    Calls Try.prog 55 #[.string s, .int .i64 i] w fun e w' => e = .returned (.int .i64 (nHead s i)) ∧ w' = w := by
  go_enter Try.func55, Try.ntmps55
  go_wp2
  go_loop [5] (fun r => ∃ k : Nat, k ≤ 4 ∧ r = .int .i64 k ∧ ∀ j, j < k → (!headOk s i j) = false) (fun r => 4 - (intOf r).toNat)
  case atStart => exact ⟨0, by omega, rfl, by intro j hj; omega⟩
  case round =>
    obtain ⟨k, hk, rfl, hno⟩ := hrel
    have HN := hide hno
    clear hno
    by_cases hlt : k < 4
    · by_cases h2 : i + k < s.size
      · have e := bt_of h2
        cases hb : headB k (bt s (i + k)) with
        | false =>
          have hv : headB k (s[i + k].toNat : Int) = false := by rw [e]; exact hb
          have HK := hide (show (!headOk s i k) = true by simp [headOk, hb])
          clear e hb
          go_wp2_with (go_at_call 43; refine (headAllows_any _ _ _ (by omega) (by omega)).mono ?_; rintro e w' ⟨rfl, rfl⟩)
          go_ret
          exact ⟨ret_int (by rw [nHead, firstIx_is (unhide HN) hlt (unhide HK)]), rfl⟩
        | true =>
          have hv : headB k (s[i + k].toNat : Int) = true := by rw [e]; exact hb
          have HK := hide (show (!headOk s i k) = false by simp [headOk, hb, h2])
          clear e hb
          go_wp2_with (go_at_call 43; refine (headAllows_any _ _ _ (by omega) (by omega)).mono ?_; rintro e w' ⟨rfl, rfl⟩)
          go_round
          case rel => exact ⟨k + 1, by omega, by go_num, fun j hj => by
            by_cases e : j = k
            · subst e; exact unhide HK
            · exact unhide HN j (by omega)⟩
          case measure => simp [intOf]; omega
      · have HK := hide (show (!headOk s i k) = true by simp [headOk, h2])
        go_wp2
        go_ret
        exact ⟨ret_int (by rw [nHead, firstIx_is (unhide HN) hlt (unhide HK)]), rfl⟩
    · go_wp2
      go_ret
      exact ⟨ret_int (by rw [nHead, firstIx_none (fun j hj => unhide HN j (by omega))]; omega), rfl⟩

set_option maxHeartbeats 400000 in
theorem rightSig_any (s : ByteArray) (i : Nat) (w : World) (hs : s.size ≤ 320) (hi : i ≤ 1000) :
    Calls Try.prog 56 #[.string s, .int .i64 i] w fun e w' => e = .returned (.int .i64 (nSig s i)) ∧ w' = w := by
  go_enter Try.func56, Try.ntmps56
  go_wp2
  go_loop [5, 6, 7] (fun r b _ => ∃ k : Nat, k ≤ 9 ∧ r = .int .i64 k ∧ b = .int .u8 (befB s i k) ∧ ∀ j, j < k → (!sigOk s i j) = false) (fun r _ _ => 9 - (intOf r).toNat)
  case atStart => exact ⟨0, by omega, rfl, rfl, by intro j hj; omega⟩
  case round =>
    obtain ⟨k, hk, rfl, rfl, hno⟩ := hrel
    have HN := hide hno
    clear hno
    by_cases hlt : k < 9
    · by_cases h2 : i + k < s.size
      · have e := bt_of h2
        cases hb : sigB k (befB s i k) (bt s (i + k)) with
        | false =>
          have hv : sigB k (befB s i k) (s[i + k].toNat : Int) = false := by rw [e]; exact hb
          have HK := hide (show (!sigOk s i k) = true by simp [sigOk, hb])
          clear e hb
          go_wp2_with (go_at_call 62; refine (signalAllows_any _ _ _ _ (by omega) (by omega)).mono ?_; rintro e w' ⟨rfl, rfl⟩)
          go_ret
          exact ⟨ret_int (by rw [nSig, firstIx_is (unhide HN) hlt (unhide HK)]), rfl⟩
        | true =>
          have hv : sigB k (befB s i k) (s[i + k].toNat : Int) = true := by rw [e]; exact hb
          have HK := hide (show (!sigOk s i k) = false by simp [sigOk, hb, h2])
          have HB := hide (show (s[i + k].toNat : Int) = befB s i (k + 1) by rw [e, befB, if_neg (by omega)]; rfl)
          clear e hb
          go_wp2_with (go_at_call 62; refine (signalAllows_any _ _ _ _ (by omega) (by omega)).mono ?_; rintro e w' ⟨rfl, rfl⟩)
          go_round
          case rel => exact ⟨k + 1, by omega, by go_num, by rw [← unhide HB], fun j hj => by
            by_cases e : j = k
            · subst e; exact unhide HK
            · exact unhide HN j (by omega)⟩
          case measure => simp [intOf]; omega
      · have HK := hide (show (!sigOk s i k) = true by simp [sigOk, h2])
        go_wp2
        go_ret
        exact ⟨ret_int (by rw [nSig, firstIx_is (unhide HN) hlt (unhide HK)]), rfl⟩
    · go_wp2
      go_ret
      exact ⟨ret_int (by rw [nSig, firstIx_none (fun j hj => unhide HN j (by omega))]; omega), rfl⟩

/-- The number that a text is as an id, -1 if it is none. -/
def idTo (s : ByteArray) : Nat → Int
  | 0 => 0
  | k + 1 => 16 * idTo s k + worth (bt s k)
def idBad (s : ByteArray) : Bool := anyIx (fun k => !headB k (bt s k)) 3
def idNum (s : ByteArray) : Int := if s.size = 3 then (if idBad s then -1 else idTo s 3) else -1

theorem worth_hi (c : Int) (h0 : 0 ≤ c) (h : c ≤ 255) : -48 ≤ worth c ∧ worth c ≤ 200 := by unfold worth; split <;> omega
theorem idTo_hi (s : ByteArray) : ∀ k, k ≤ 3 → -100000 ≤ idTo s k ∧ idTo s k ≤ 100000 := by
  intro k hk
  have h0 := worth_hi (bt s 0) (bt_lo s 0) (bt_hi s 0)
  have h1 := worth_hi (bt s 1) (bt_lo s 1) (bt_hi s 1)
  have h2 := worth_hi (bt s 2) (bt_lo s 2) (bt_hi s 2)
  obtain rfl | rfl | rfl | rfl : k = 0 ∨ k = 1 ∨ k = 2 ∨ k = 3 := by omega
  all_goals (simp only [idTo]; omega)

set_option maxHeartbeats 400000 in
theorem idNumber_any (s : ByteArray) (w : World) (hs : s.size ≤ maxLen) :
    Calls Try.prog 26 #[.string s] w fun e w' => e = .returned (.int .i64 (idNum s)) ∧ w' = w := by
  unfold maxLen at hs
  by_cases h3 : s.size = 3
  · have h3a : (3 : Nat) ≤ s.size := by omega
    have h3b : s.size ≤ (3 : Nat) := by omega
    have h3n : ((s.size : Int) != 3) = false := by rw [h3]; rfl
    have H3 := hide h3
    clear h3
    go_enter Try.func26, Try.ntmps26
    go_wp2
    go_loop [3, 4] (fun v r => ∃ k : Nat, k ≤ 3 ∧ r = .int .i64 k ∧ v = .int .i64 (idTo s k) ∧ ∀ j, j < k → (!headB j (bt s j)) = false) (fun _ r => 3 - (intOf r).toNat)
    case atStart => exact ⟨0, by omega, rfl, rfl, by intro j hj; omega⟩
    case round =>
      obtain ⟨k, hk, rfl, rfl, hno⟩ := hrel
      have HN := hide hno
      clear hno
      have hbd := idTo_hi s k hk
      obtain ⟨hbd1, hbd2⟩ := hbd
      by_cases hlt : k < 3
      · have h2 : k < s.size := by omega
        have e := bt_of h2
        have hlo := bt_lo s k
        have hhi := bt_hi s k
        have hw := worth_hi (bt s k) hlo hhi
        rw [← e] at hlo hhi
        cases hb : headB k (bt s k) with
        | false =>
          have hv : headB k (s[k].toNat : Int) = false := by rw [e]; exact hb
          have HB := hide hb
          clear e hb hw
          go_wp2_with (go_at_call 43; refine (headAllows_any _ _ _ (by omega) (by omega)).mono ?_; rintro e w' ⟨rfl, rfl⟩)
          go_ret
          exact ⟨ret_int (by rw [idNum, if_pos (unhide H3), idBad, anyIx_is (unhide HN) hlt (by simp [unhide HB])]; rfl), rfl⟩
        | true =>
          have hv : headB k (s[k].toNat : Int) = true := by rw [e]; exact hb
          rw [← e] at hw
          obtain ⟨hw1, hw2⟩ := hw
          have HE := hide e
          have HB := hide hb
          clear e hb
          go_wp2_with (first | (go_at_call 43; refine (headAllows_any _ _ _ (by omega) (by omega)).mono ?_; rintro e w' ⟨rfl, rfl⟩) | (go_at_call 44; refine (digitWorth_any _ _ (by omega) (by omega)).mono ?_; rintro e w' ⟨rfl, rfl⟩))
          go_round
          case rel => exact ⟨k + 1, by omega, by go_num, by rw [unhide HE]; rfl, fun j hj => by
            by_cases e : j = k
            · subst e; simp [unhide HB]
            · exact unhide HN j (by omega)⟩
          case measure => simp [intOf]; omega
      · have hk3 : k = 3 := by omega
        subst hk3
        go_wp2
        go_ret
        exact ⟨ret_int (by rw [idNum, if_pos (unhide H3), idBad, anyIx_none (unhide HN)]; rfl), rfl⟩
  · have h3' : ((s.size : Int) != 3) = true := by rw [bne_iff_ne]; omega
    have HF := hide (show idNum s = -1 by rw [idNum, if_neg h3])
    clear h3
    go_enter Try.func26, Try.ntmps26
    go_wp2
    go_ret
    exact ⟨ret_int (by rw [unhide HF]), rfl⟩

end Go.Proofs.Ytljodhcfimklkab
