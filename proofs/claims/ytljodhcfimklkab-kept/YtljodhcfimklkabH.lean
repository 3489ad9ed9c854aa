import Derived.Test.YtljodhcfimklkabE
namespace Go.Proofs.Ytljodhcfimklkab
open Go.RowKit

/-- Can two signals of these roles be active together? -/
def meetR (a b : Int) : Bool := decide (a = b) || !isDigB a || !isDigB b

set_option maxHeartbeats 400000 in
theorem rTogether_any (a b : Sg) (w : World) :
    Calls Try.prog 48 #[.agg #[.int .u8 a.nm, .int .i64 a.st, .int .i64 a.ln, .bool (decide (a.od = 62)), .bool (decide (a.kd = 115)), .int .u8 a.rl, .int .i64 a.pl],
      .agg #[.int .u8 b.nm, .int .i64 b.st, .int .i64 b.ln, .bool (decide (b.od = 62)), .bool (decide (b.kd = 115)), .int .u8 b.rl, .int .i64 b.pl]] w
      fun e w' => e = .returned (.bool (meetR a.rl b.rl)) ∧ Below w.heap.size w w' := by
  generalize decide (a.od = 62) = x1
  generalize decide (a.kd = 115) = x2
  generalize decide (b.od = 62) = x3
  generalize decide (b.kd = 115) = x4
  cases h1 : isDigB a.rl <;> cases h2 : isDigB b.rl <;> by_cases h3 : (a.rl == b.rl) = true
  all_goals
    go_enter Try.func48, Try.ntmps48
    go_wp2_with (go_at_call 40; refine (rIsDigit_any _ _).mono ?_; rintro e w' ⟨rfl, rfl⟩)
    all_goals (go_ret; exact ⟨ret_bool (by simp_all [meetR]), ((Below.refl _ _).alloc (Nat.le_refl _) _).alloc (by simp) _⟩)

theorem alloc_cell {w : World} {o : Obj} {g j : Nat} (hg : g < w.heap.size) : (w.alloc o).cell? ⟨g, j, none⟩ = w.cell? ⟨g, j, none⟩ :=
  ((Below.refl w.heap.size w).alloc (Nat.le_refl _) o).cell (p := ⟨g, j, none⟩) hg

set_option maxHeartbeats 400000 in
theorem rMux_any (id : ByteArray) (sz pl : Int) (v : Value) (L : List Sg) (w : World) (h : RSigsAt w v L) (hl : L.length ≤ 8) :
    Calls Try.prog 39 #[.agg #[.string id, .int .i64 sz, v, .int .i64 pl]] w fun e w' => e = .returned (.int .i64 (muxOf L)) ∧ Below w.heap.size w w' := by
  rcases h.opened with ⟨rfl, a, c, rfl⟩ | ⟨g, cap, rfl, hg, hcap, _, hc⟩
  · go_enter Try.func39, Try.ntmps39
    go_wp2
    refine wp_loop_rounds 1 ?_
    rw [rounds_succ]
    go_wp2
    go_ret
    exact ⟨ret_int (by simp [muxOf, findIx]), (Below.refl _ _).alloc (Nat.le_refl _) _⟩
  · have HC := hide hc
    clear hc
    go_enter Try.func39, Try.ntmps39
    go_wp2
    go_loop [3] (fun i => ∃ k : Nat, k ≤ L.length ∧ i = .int .i64 k ∧ ∀ j, j < k → decide ((sgAt L j).rl = 77) = false) (fun i => L.length - (intOf i).toNat)
    case atStart => exact ⟨0, by omega, rfl, by intro j hj; omega⟩
    case round =>
      obtain ⟨k, hk, rfl, hno⟩ := hrel
      have HN := hide hno
      clear hno
      by_cases hlt : k < L.length
      · have hc6 : ∀ o : Obj, (w.alloc o).cell? ⟨g, k * 7 + 5, none⟩ = some (.int .u8 (sgAt L k).rl) := fun o => by rw [alloc_cell hg]; exact (unhide HC) k 5 hlt (by omega)
        by_cases hm : (sgAt L k).rl = 77
        · have hmb : ((sgAt L k).rl == 77) = true := by simp [hm]
          have HM := hide hm
          clear hm
          go_wp2
          go_ret
          exact ⟨ret_int (by rw [muxOf, findIx_is (unhide HN) hlt (by simpa using unhide HM)]), (Below.refl _ _).alloc (Nat.le_refl _) _⟩
        · have hmb : ((sgAt L k).rl == 77) = false := by simp [hm]
          have HM := hide hm
          clear hm
          go_wp2
          go_round
          case rel => exact ⟨k + 1, by omega, by go_num, fun j hj => by
            by_cases e : j = k
            · subst e; simpa using unhide HM
            · exact unhide HN j (by omega)⟩
          case measure => simp [intOf]; omega
      · go_wp2
        go_ret
        exact ⟨ret_int (by rw [muxOf, findIx_none (fun j hj => unhide HN j (by omega))]), (Below.refl _ _).alloc (Nat.le_refl _) _⟩

end Go.Proofs.Ytljodhcfimklkab
