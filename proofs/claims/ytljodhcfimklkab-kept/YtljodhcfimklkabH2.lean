import Derived.Test.YtljodhcfimklkabH
import Derived.Test.YtljodhcfimklkabG
namespace Go.Proofs.Ytljodhcfimklkab
open Go.RowKit

/-- Have two signals a bit in common? -/
def shareB (a b : Sg) : Bool := anyIx (fun i => anyIx (fun j => decide (place a.st a.ln a.od i = place b.st b.ln b.od j)) b.ln.toNat) a.ln.toNat

theorem box2_cell {w wr : World} {o1 o2 : Obj} (hb : Below (w.heap.size + 2) ((w.alloc o1).alloc o2) wr) (j : Nat) :
    wr.cell? ⟨w.heap.size, j, none⟩ = ((w.alloc o1).alloc o2).cell? ⟨w.heap.size, j, none⟩ ∧ wr.cell? ⟨w.heap.size + 1, j, none⟩ = ((w.alloc o1).alloc o2).cell? ⟨w.heap.size + 1, j, none⟩ :=
  ⟨hb.cell (p := ⟨w.heap.size, j, none⟩) (by simp), hb.cell (p := ⟨w.heap.size + 1, j, none⟩) (by simp)⟩
theorem box2_below {w wr : World} {o1 o2 : Obj} (hb : Below (w.heap.size + 2) ((w.alloc o1).alloc o2) wr) : Below w.heap.size w wr :=
  (((Below.refl _ _).alloc (Nat.le_refl _) _).alloc (by simp) _).trans (hb.mono (by omega))
theorem box2_next {w wr w' : World} {o1 o2 : Obj} (hb : Below (w.heap.size + 2) ((w.alloc o1).alloc o2) wr) (h : Below wr.heap.size wr w') : Below (w.heap.size + 2) ((w.alloc o1).alloc o2) w' :=
  hb.trans (h.mono (by have := hb.size; simp at this; omega))

set_option maxHeartbeats 1000000 in
theorem rShares_any (a b : Sg) (w : World) (ha : a.Ok) (hbk : b.Ok) :
    Calls Try.prog 49 #[.agg #[.int .u8 a.nm, .int .i64 a.st, .int .i64 a.ln, .bool (decide (a.od = 62)), .bool (decide (a.kd = 115)), .int .u8 a.rl, .int .i64 a.pl],
      .agg #[.int .u8 b.nm, .int .i64 b.st, .int .i64 b.ln, .bool (decide (b.od = 62)), .bool (decide (b.kd = 115)), .int .u8 b.rl, .int .i64 b.pl]] w
      fun e w' => e = .returned (.bool (shareB a b)) ∧ Below w.heap.size w w' := by
  have HA := hide ha
  have HBK := hide hbk
  have la := ha.ln0
  have lb := hbk.ln0
  have la1 := ha.ln1
  have lb1 := hbk.ln1
  have EA := hide (show decide (a.od = 62) = decide (a.od = 62) from rfl)
  clear ha hbk EA
  obtain ⟨x1, X1⟩ : ∃ x, Hid (x = decide (a.od = 62)) := ⟨_, hide rfl⟩
  obtain ⟨x2, X2⟩ : ∃ x, Hid (x = decide (a.kd = 115)) := ⟨_, hide rfl⟩
  obtain ⟨x3, X3⟩ : ∃ x, Hid (x = decide (b.od = 62)) := ⟨_, hide rfl⟩
  obtain ⟨x4, X4⟩ : ∃ x, Hid (x = decide (b.kd = 115)) := ⟨_, hide rfl⟩
  rw [← unhide X1, ← unhide X2, ← unhide X3, ← unhide X4]
  go_enter Try.func49, Try.ntmps49
  go_wp2
  go_loopw [5, 6, 7, 8] (fun i _ _ _ wr => ∃ k : Nat, (k : Int) ≤ a.ln ∧ i = .int .i64 k ∧ (∀ j, j < k → anyIx (fun j' => decide (place a.st a.ln a.od j = place b.st b.ln b.od j')) b.ln.toNat = false) ∧
    Below (w.heap.size + 2) ((w.alloc (.cells #[.int .u8 a.nm, .int .i64 a.st, .int .i64 a.ln, .bool x1, .bool x2, .int .u8 a.rl, .int .i64 a.pl] 63)).alloc (.cells #[.int .u8 b.nm, .int .i64 b.st, .int .i64 b.ln, .bool x3, .bool x4, .int .u8 b.rl, .int .i64 b.pl] 63)) wr) (fun i _ _ _ _ => (a.ln - intOf i).toNat)
  case atStart => exact ⟨0, by omega, rfl, by intro j hj; omega, Below.refl _ _⟩
  case round =>
    obtain ⟨k, hk, rfl, hno, hb⟩ := hrel
    have HN := hide hno
    have HB := hide hb
    have hc := fun j => (box2_cell hb j).1
    clear hb hno
    obtain ⟨wo, rfl⟩ : ∃ wo : World, wo = wr := ⟨_, rfl⟩
    by_cases hlt : (k : Int) < a.ln
    · go_wp2
      go_loopw [6, 7, 8] (fun i _ _ wr => ∃ m : Nat, (m : Int) ≤ b.ln ∧ i = .int .i64 m ∧ (∀ j, j < m → decide (place a.st a.ln a.od k = place b.st b.ln b.od j) = false) ∧
        Below (w.heap.size + 2) ((w.alloc (.cells #[.int .u8 a.nm, .int .i64 a.st, .int .i64 a.ln, .bool x1, .bool x2, .int .u8 a.rl, .int .i64 a.pl] 63)).alloc (.cells #[.int .u8 b.nm, .int .i64 b.st, .int .i64 b.ln, .bool x3, .bool x4, .int .u8 b.rl, .int .i64 b.pl] 63)) wr) (fun i _ _ _ => (b.ln - intOf i).toNat)
      case atStart => exact ⟨0, by omega, rfl, by intro j hj; omega, unhide HB⟩
      case round =>
        obtain ⟨m, hm, rfl, hno2, hb2⟩ := hrel
        have HN2 := hide hno2
        have HB2 := hide hb2
        clear hc
        have hc := fun j => (box2_cell hb2 j).1
        have hd := fun j => (box2_cell hb2 j).2
        clear hb2 hno2
        by_cases hlt2 : (m : Int) < b.ln
        · go_wp2_with fail
          rw [unhide X1, unhide X2]
          refine (rBit_any a.nm a.st a.ln a.rl a.pl k a.od a.kd _ (unhide HA).st0 (unhide HA).st1 (unhide HA).ln0 (unhide HA).ln1 (unhide HA).od (by omega) hlt).mono ?_
          rintro e w1 ⟨rfl, hb1⟩
          rw [← unhide X1, ← unhide X2]
          have hb1' := box2_next (unhide HB2) hb1
          have HB1 := hide hb1'
          clear hc hd
          have hd := fun j => (box2_cell hb1' j).2
          clear hb1 hb1'
          go_wp2_with fail
          rw [unhide X3, unhide X4]
          refine (rBit_any b.nm b.st b.ln b.rl b.pl m b.od b.kd _ (unhide HBK).st0 (unhide HBK).st1 (unhide HBK).ln0 (unhide HBK).ln1 (unhide HBK).od (by omega) hlt2).mono ?_
          rintro e w2 ⟨rfl, hb2⟩
          rw [← unhide X3, ← unhide X4]
          have hb2' := box2_next (unhide HB1) hb2
          have HB2' := hide hb2'
          clear hd hb2 hb2'
          by_cases heq : place a.st a.ln a.od k = place b.st b.ln b.od m
          · have hq : (place a.st a.ln a.od k == place b.st b.ln b.od m) = true := by simpa using heq
            have HQ := hide heq
            clear heq
            go_wp2
            go_ret
            exact ⟨ret_bool (by rw [shareB, anyIx_is (unhide HN) (by omega) (anyIx_is (unhide HN2) (by omega) (by simpa using unhide HQ))]), box2_below (unhide HB2')⟩
          · have hq : (place a.st a.ln a.od k == place b.st b.ln b.od m) = false := by simpa using heq
            have HQ := hide heq
            clear heq
            go_wp2
            go_roundw
            case rel => exact ⟨m + 1, by omega, by go_num, fun j hj => by
              by_cases e : j = m
              · subst e; simpa using unhide HQ
              · exact unhide HN2 j (by omega), unhide HB2'⟩
            case measure => simp [intOf]; omega
        · go_wp2
          go_roundw
          case rel => exact ⟨k + 1, by omega, by go_num, fun j hj => by
              by_cases e : j = k
              · subst e; exact anyIx_none (fun j' hj' => unhide HN2 j' (by omega))
              · exact unhide HN j (by omega), unhide HB2⟩
          case measure => simp [intOf]; omega
    · go_wp2
      go_ret
      exact ⟨ret_bool (by rw [shareB, anyIx_none (fun j hj => unhide HN j (by omega))]), box2_below (unhide HB)⟩

end Go.Proofs.Ytljodhcfimklkab
