import Derived.Test.YtljodhcfimklkabM7
import Derived.Test.YtljodhcfimklkabU1
namespace Go.Proofs.Ytljodhcfimklkab
open Go.RowKit

def inAt (L : List Ins) (k : Nat) : Ins := L.getD k ⟨0, 0, 0, 0, 0⟩
theorem inAt_eq (L : List Ins) (k : Nat) (h : k < L.length) : inAt L k = L[k] := by simp [inAt, h]
theorem inAt_some (L : List Ins) (k : Nat) (h : k < L.length) : L[k]? = some (inAt L k) := by rw [inAt_eq L k h]; simp [h]
theorem drop_inAt (L : List Ins) (k : Nat) (h : k < L.length) : L.drop k = inAt L k :: L.drop (k + 1) := by
  rw [inAt_eq L k h]; exact List.drop_eq_getElem_cons h

theorem InsAt.opened {w : World} {v : Value} {L : List Ins} (h : InsAt w v L) :
    (L = [] ∧ (∃ a c, v = .slice a 0 c)) ∨ ∃ g cap, v = .slice (some ⟨g, 0, none⟩) L.length cap ∧ g < w.heap.size ∧ L.length ≤ cap ∧ cap ≤ maxLen ∧
      ∀ k j, k < L.length → j < 5 → w.cell? ⟨g, k * 5 + j, none⟩ = (inAt L k).cells[j]? := by
  have h' := h
  obtain ⟨hl, h2⟩ := h
  rcases h2 with ⟨rfl, hn⟩ | ⟨g, cap, cur, rfl, _, hg, hnc, hcm, hcs, ht⟩
  · exact .inl ⟨List.eq_nil_of_length_eq_zero hn, _, _, rfl⟩
  · refine .inr ⟨g, cap, rfl, (Array.getElem?_eq_some_iff.1 hg).1, hnc, hcm, fun k j hk hj => ?_⟩
    obtain ⟨g', cap', e1, e2, _⟩ := row_cell h' (k * 5 + j) (by omega)
    cases e1
    rw [e2, flat_get Ins.cells 5 (fun _ => rfl) L k j hk hj, inAt_eq L k hk]
theorem cells5 {w wx : World} {g : Nat} {L : List Ins} (hc : ∀ k j, k < L.length → j < 5 → w.cell? ⟨g, k * 5 + j, none⟩ = (inAt L k).cells[j]?) (hg : g < w.heap.size) (hb : Below w.heap.size w wx) {k : Nat} (hk : k < L.length) :
    wx.cell? ⟨g, k * 5, none⟩ = some (.int .u8 (inAt L k).op) ∧ wx.cell? ⟨g, k * 5 + 1, none⟩ = some (.int .i64 (inAt L k).r) ∧ wx.cell? ⟨g, k * 5 + 2, none⟩ = some (.int .i64 (inAt L k).b) ∧ wx.cell? ⟨g, k * 5 + 3, none⟩ = some (.int .i64 (inAt L k).k) ∧ wx.cell? ⟨g, k * 5 + 4, none⟩ = some (.int .i64 (inAt L k).n) := by
  refine ⟨?_, ?_, ?_, ?_, ?_⟩
  · rw [hb.cell (p := ⟨g, k * 5, none⟩) hg]; exact hc k 0 hk (by omega)
  · rw [hb.cell (p := ⟨g, k * 5 + 1, none⟩) hg]; exact hc k 1 hk (by omega)
  · rw [hb.cell (p := ⟨g, k * 5 + 2, none⟩) hg]; exact hc k 2 hk (by omega)
  · rw [hb.cell (p := ⟨g, k * 5 + 3, none⟩) hg]; exact hc k 3 hk (by omega)
  · rw [hb.cell (p := ⟨g, k * 5 + 4, none⟩) hg]; exact hc k 4 hk (by omega)

set_option maxRecDepth 100000 in
set_option maxHeartbeats 4000000 in
theorem run_any (g : Nat) (vp : Value) (L : List Ins) (s : St) (w0 w : World) (hp : InsAt w0 vp L) (h0 : w0.heap.size ≤ g) (hb0 : Below w0.heap.size w0 w) (hm : MachAt w g s) (hN : s.N < 18446744073709551616) (hf : Fine L) (hl : L.length ≤ 96) :
    Calls Try.prog 17 #[.pointer (some ⟨g, 0, none⟩), vp] w fun e w' => e = .returned (.tuple #[.int .i64 (runL L s).2.1, .int .i64 (runL L s).2.2]) ∧ MachAt w' g (runL L s).1 ∧ (runL L s).1.N < 18446744073709551616 ∧ Below g w w' := by
  rcases hp.opened with ⟨rfl, a, cc, rfl⟩ | ⟨gp, cap, rfl, hgp, hcap, hcm, hc⟩
  · go_enter Try.func17, Try.ntmps17
    go_wp2
    refine wp_loop_rounds 1 ?_
    rw [rounds_succ]
    go_wp2
    go_ret2
    exact ⟨rfl, hm, hN, Below.refl _ _⟩
  have HP := hide hc
  have HB0 := hide hb0
  have HM := hide hm
  have HN := hide hN
  have HF := hide hf
  clear hc hb0 hm hN hf hp
  go_enter Try.func17, Try.ntmps17
  go_wp2
  go_loopw [6] (fun i wr => ∃ (a : Nat) (S : St), i = .int .i64 a ∧ a ≤ L.length ∧ MachAt wr g S ∧ S.N < 18446744073709551616 ∧ Below g w wr ∧ runL (L.drop a) S = runL L s) (fun i _ => L.length - (intOf i).toNat)
  case atStart => exact ⟨0, s, rfl, by omega, unhide HM, unhide HN, Below.refl _ _, rfl⟩
  case round =>
    obtain ⟨a, S, rfl, ha, hma, hSN, hbw, hrun⟩ := hrel
    have HMA := hide hma
    have HSN := hide hSN
    have HBW := hide hbw
    have HRUN := hide hrun
    clear hma hSN hbw hrun
    by_cases hlt : a < L.length
    · obtain ⟨x, HX⟩ : ∃ x, Hid (x = inAt L a) := ⟨_, hide rfl⟩
      have hcx := cells5 (unhide HP) hgp ((unhide HB0).trans ((unhide HBW).mono h0)) hlt
      rw [← unhide HX] at hcx
      obtain ⟨hbyt, hkn⟩ := unhide HF a x (by rw [unhide HX]; exact inAt_some L a hlt)
      rw [drop_inAt L a hlt, ← unhide HX, runL_cons] at HRUN
      obtain ⟨op, r, b, k, n⟩ := x
      obtain ⟨c0, c1, c2, c3, c4⟩ := hcx
      have HKN := hide hkn
      have HBY := hide hbyt
      have hr7 := known_r hkn
      have hop := known_op hkn
      simp only at hr7 hop c0 c1 c2 c3 c4
      have hr0 : 0 ≤ r := hbyt.r0
      obtain ⟨q, rfl⟩ : ∃ q : Nat, r = q := ⟨r.toNat, by omega⟩
      have hq : q < 8 := by omega
      clear hkn hbyt
      have hi0 : (0 : Int) ≤ (a : Int) := by omega
      have hi1 : (a : Int) < (L.length : Int) := by omega
      have hreg := (unhide HMA).reg hq
      have hlg := (unhide HMA).lt
      have hbx := fun (wx : World) (h : Below (wr.heap.size + 1) (wr.alloc (.cells #[.int .u8 op, .int .i64 q, .int .i64 b, .int .i64 k, .int .i64 n] 78)) wx) => box_cell h
      have hrg : ∀ wx : World, Below (wr.heap.size + 1) (wr.alloc (.cells #[.int .u8 op, .int .i64 q, .int .i64 b, .int .i64 k, .int .i64 n] 78)) wx → wx.cell? ⟨g, q, none⟩ = some (.int .i64 (S.reg q)) := fun wx h => by
        rw [(box_below h).cell (p := ⟨g, q, none⟩) hlg]; exact hreg
      go_wp2
      refine wp_region_noPanic ?_
      refine wp_region_held_drew (S := fun wx => Below (wr.heap.size + 1) (wr.alloc (.cells #[.int .u8 op, .int .i64 q, .int .i64 b, .int .i64 k, .int .i64 n] 78)) wx) (by kernel_rfl) ((Below.refl _ _).drew) (fun hHeld => ?_)
      refine wpAnyH_take (i := 0) (v := ?_) (at_list rfl) (by kernel_rfl) (by kernel_rfl) (by kernel_rfl) (fun _ _ _ h => h) (Or.inl ⟨by rfl, ?_⟩) (by assumption) ?_
      rotate_left
      · intro w hSw; (try dsimp only at hSw); first | (go_simp; done) | (go_simp; with_reducible rfl)
      try simp only [Act.put]
      try simp only [List.setIfInBounds_toArray]
      try simp only [List.set_cons_succ]
      try simp only [List.set_cons_zero]
      refine wpAnyH_take (i := 1) (v := ?_) (at_list rfl) (by kernel_rfl) (by kernel_rfl) (by kernel_rfl) (fun _ _ _ h => h) (Or.inl ⟨by rfl, ?_⟩) (by assumption) ?_
      rotate_left
      · intro w hSw; (try dsimp only at hSw); first | (go_simp; done) | (go_simp; with_reducible rfl)
      try simp only [Act.put]
      try simp only [List.setIfInBounds_toArray]
      try simp only [List.set_cons_succ]
      try simp only [List.set_cons_zero]
      refine wpAnyH_take (i := 2) (v := ?_) (at_list rfl) (by kernel_rfl) (by kernel_rfl) (by kernel_rfl) (fun _ _ _ h => h) (Or.inl ⟨by rfl, ?_⟩) (by assumption) ?_
      rotate_left
      · intro w hSw; (try dsimp only at hSw); first | (go_simp; done) | (go_simp; with_reducible rfl)
      try simp only [Act.put]
      try simp only [List.setIfInBounds_toArray]
      try simp only [List.set_cons_succ]
      try simp only [List.set_cons_zero]
      refine wpAnyH_take (i := 3) (v := ?_) (at_list rfl) (by kernel_rfl) (by kernel_rfl) (by kernel_rfl) (fun _ _ _ h => h) (Or.inl ⟨by rfl, ?_⟩) (by assumption) ?_
      rotate_left
      · intro w hSw; (try dsimp only at hSw); first | (go_simp; done) | (go_simp; with_reducible rfl)
      try simp only [Act.put]
      try simp only [List.setIfInBounds_toArray]
      try simp only [List.set_cons_succ]
      try simp only [List.set_cons_zero]
      refine wpAnyH_take (i := 4) (v := ?_) (at_list rfl) (by kernel_rfl) (by kernel_rfl) (by kernel_rfl) (fun _ _ _ h => h) (Or.inl ⟨by rfl, ?_⟩) (by assumption) ?_
      rotate_left
      · intro w hSw; (try dsimp only at hSw); first | (go_simp; done) | (go_simp; with_reducible rfl)
      try simp only [Act.put]
      try simp only [List.setIfInBounds_toArray]
      try simp only [List.set_cons_succ]
      try simp only [List.set_cons_zero]
      refine wpAnyH_take (i := 5) (v := ?_) (at_list rfl) (by kernel_rfl) (by kernel_rfl) (by kernel_rfl) (fun _ _ _ h => h) (Or.inl ⟨by rfl, ?_⟩) (by assumption) ?_
      rotate_left
      · intro w hSw; (try dsimp only at hSw); first | (go_simp; done) | (go_simp; with_reducible rfl)
      try simp only [Act.put]
      try simp only [List.setIfInBounds_toArray]
      try simp only [List.set_cons_succ]
      try simp only [List.set_cons_zero]
      refine wpAnyH_take (i := 6) (v := ?_) (at_list rfl) (by kernel_rfl) (by kernel_rfl) (by kernel_rfl) (fun _ _ _ h => h) (Or.inl ⟨by rfl, ?_⟩) (by assumption) ?_
      rotate_left
      · intro w hSw; (try dsimp only at hSw); first | (go_simp; done) | (go_simp; with_reducible rfl)
      try simp only [Act.put]
      try simp only [List.setIfInBounds_toArray]
      try simp only [List.set_cons_succ]
      try simp only [List.set_cons_zero]
      refine wpAnyH_take (i := 7) (v := ?_) (at_list rfl) (by kernel_rfl) (by kernel_rfl) (by kernel_rfl) (fun _ _ _ h => h) (Or.inl ⟨by rfl, ?_⟩) (by assumption) ?_
      rotate_left
      · intro w hSw; (try dsimp only at hSw); first | (go_simp; done) | (go_simp; with_reducible rfl)
      try simp only [Act.put]
      try simp only [List.setIfInBounds_toArray]
      try simp only [List.set_cons_succ]
      try simp only [List.set_cons_zero]
      refine wpAnyH_done (by kernel_rfl) ?_ _
      refine NoPanic.normal ?_
      have HBOX := hide (show (wr.alloc (.cells #[.int .u8 op, .int .i64 q, .int .i64 b, .int .i64 k, .int .i64 n] 78)).drew.heap[wr.heap.size]? = some (.cells #[.int .u8 op, .int .i64 q, .int .i64 b, .int .i64 k, .int .i64 n] 78 (0, 0)) from blk_new _ _)
      have HM7 := hide ((unhide HMA).bel (box_below hHeld))
      have HB7 := hide ((unhide HBW).trans ((box_below hHeld).mono (by omega)))
      have hsb : g ≠ wr.heap.size := by omega
      have hgs : g < (wr.alloc (.cells #[.int .u8 op, .int .i64 q, .int .i64 b, .int .i64 k, .int .i64 n] 78)).drew.heap.size := by have := (box_below hHeld).size; omega
      clear hrg hreg c0 c1 c2 c3 c4 hbx hHeld HMA HBW
      generalize (wr.alloc (.cells #[.int .u8 op, .int .i64 q, .int .i64 b, .int .i64 k, .int .i64 n] 78)).drew = w7 at *
      generalize wr.heap.size = sb at *
      have hk0 := (unhide HBY).k0
      have hb0 := (unhide HBY).b0
      have hn0 := (unhide HBY).n0
      simp only at hk0 hb0 hn0
      have hd := fun (wx : World) (h : wx.heap[sb]? = some (.cells #[.int .u8 op, .int .i64 q, .int .i64 b, .int .i64 k, .int .i64 n] 78 (0, 0))) => blk_cell h
      have hd7 := hd w7 (unhide HBOX)
      rcases hop with rfl | rfl | rfl | rfl | rfl | rfl
      · obtain ⟨n1, b1, h8, h32⟩ := known_move (unhide HKN) (.inl rfl)
        simp only at n1 b1 h8 h32
        have HR := hide (show runL (L.drop (a + 1)) { S with reg := upd S.reg q (putTo (low (S.reg q)) S.N k.toNat b.toNat n.toNat : Nat) } = runL L s by have := unhide HRUN; rw [act_get] at this; simpa using this)
        have hfr := fun (wx : World) (h : MachAt wx g S) => h.free q
        have hrc := fun (wx : World) (h : MachAt wx g S) => h.reg hq
        go_wp2
        clear hd7
        refine wp_region_noPanic ?_
        refine wp_region_held_drew (S := fun wx => wx.heap[sb]? = some (.cells #[.int .u8 71, .int .i64 q, .int .i64 b, .int .i64 k, .int .i64 n] 78 (0, 0)) ∧ wx.cell? ⟨g, 16, none⟩ = some (.int .u64 S.N)) (by kernel_rfl) ⟨unhide HBOX, (unhide HM7).bits⟩ (fun hHeld => ?_)
        have hd0 : ∀ wx : World, (wx.heap[sb]? = some (.cells #[.int .u8 71, .int .i64 q, .int .i64 b, .int .i64 k, .int .i64 n] 78 (0, 0)) ∧ wx.cell? ⟨g, 16, none⟩ = some (.int .u64 S.N)) → ∀ j, wx.cell? ⟨sb, j, none⟩ = _ := fun wx h => hd wx h.1
        have hd1 : ∀ wx : World, (wx.heap[sb]? = some (.cells #[.int .u8 71, .int .i64 q, .int .i64 b, .int .i64 k, .int .i64 n] 78 (0, 0)) ∧ wx.cell? ⟨g, 16, none⟩ = some (.int .u64 S.N)) → wx.cell? ⟨g, 16, none⟩ = some (.int .u64 S.N) := fun wx h => h.2
        refine wpAnyH_take (i := 0) (v := ?_) (at_list rfl) (by kernel_rfl) (by kernel_rfl) (by kernel_rfl) (fun _ _ _ h => h) (Or.inl ⟨by rfl, ?_⟩) (by assumption) ?_
        rotate_left
        · intro w hSw; (try dsimp only at hSw); first | (go_simp; done) | (go_simp; with_reducible rfl)
        try simp only [Act.put]
        try simp only [List.setIfInBounds_toArray]
        try simp only [List.set_cons_succ]
        try simp only [List.set_cons_zero]
        refine wpAnyH_take (i := 1) (v := ?_) (at_list rfl) (by kernel_rfl) (by kernel_rfl) (by kernel_rfl) (fun _ _ _ h => h) (Or.inl ⟨by rfl, ?_⟩) (by assumption) ?_
        rotate_left
        · intro w hSw; (try dsimp only at hSw); first | (go_simp; done) | (go_simp; with_reducible rfl)
        try simp only [Act.put]
        try simp only [List.setIfInBounds_toArray]
        try simp only [List.set_cons_succ]
        try simp only [List.set_cons_zero]
        refine wpAnyH_take (i := 2) (v := ?_) (at_list rfl) (by kernel_rfl) (by kernel_rfl) (by kernel_rfl) (fun _ _ _ h => h) (Or.inl ⟨by rfl, ?_⟩) (by assumption) ?_
        rotate_left
        · intro w hSw; (try dsimp only at hSw); first | (go_simp; done) | (go_simp; with_reducible rfl)
        try simp only [Act.put]
        try simp only [List.setIfInBounds_toArray]
        try simp only [List.set_cons_succ]
        try simp only [List.set_cons_zero]
        refine wpAnyH_take (i := 3) (v := ?_) (at_list rfl) (by kernel_rfl) (by kernel_rfl) (by kernel_rfl) (fun _ _ _ h => h) (Or.inl ⟨by rfl, ?_⟩) (by assumption) ?_
        rotate_left
        · intro w hSw; (try dsimp only at hSw); first | (go_simp; done) | (go_simp; with_reducible rfl)
        try simp only [Act.put]
        try simp only [List.setIfInBounds_toArray]
        try simp only [List.set_cons_succ]
        try simp only [List.set_cons_zero]
        refine wpAnyH_take (i := 4) (v := ?_) (at_list rfl) (by kernel_rfl) (by kernel_rfl) (by kernel_rfl) (fun _ _ _ h => h) (Or.inl ⟨by rfl, ?_⟩) (by assumption) ?_
        rotate_left
        · intro w hSw; (try dsimp only at hSw); first | (go_simp; done) | (go_simp; with_reducible rfl)
        try simp only [Act.put]
        try simp only [List.setIfInBounds_toArray]
        try simp only [List.set_cons_succ]
        try simp only [List.set_cons_zero]
        refine wpAnyH_take (i := 5) (v := ?_) (at_list rfl) (by kernel_rfl) (by kernel_rfl) (by kernel_rfl) (fun _ _ _ h => h) (Or.inl ⟨by rfl, ?_⟩) (by assumption) ?_
        rotate_left
        · intro w hSw; (try dsimp only at hSw); first | (go_simp; done) | (go_simp; with_reducible rfl)
        try simp only [Act.put]
        try simp only [List.setIfInBounds_toArray]
        try simp only [List.set_cons_succ]
        try simp only [List.set_cons_zero]
        refine wpAnyH_take (i := 6) (v := ?_) (at_list rfl) (by kernel_rfl) (by kernel_rfl) (by kernel_rfl) (fun _ _ _ h => h) (Or.inl ⟨by rfl, ?_⟩) (by assumption) ?_
        rotate_left
        · intro w hSw; (try dsimp only at hSw); first | (go_simp; done) | (go_simp; with_reducible rfl)
        try simp only [Act.put]
        try simp only [List.setIfInBounds_toArray]
        try simp only [List.set_cons_succ]
        try simp only [List.set_cons_zero]
        refine wpAnyH_take (i := 7) (v := ?_) (at_list rfl) (by kernel_rfl) (by kernel_rfl) (by kernel_rfl) (fun _ _ _ h => h) (Or.inl ⟨by rfl, ?_⟩) (by assumption) ?_
        rotate_left
        · intro w hSw; (try dsimp only at hSw); first | (go_simp; done) | (go_simp; with_reducible rfl)
        try simp only [Act.put]
        try simp only [List.setIfInBounds_toArray]
        try simp only [List.set_cons_succ]
        try simp only [List.set_cons_zero]
        refine wpAnyH_take (i := 8) (v := ?_) (at_list rfl) (by kernel_rfl) (by kernel_rfl) (by kernel_rfl) (fun _ _ _ h => h) (Or.inl ⟨by rfl, ?_⟩) (by assumption) ?_
        rotate_left
        · intro w hSw; (try dsimp only at hSw); first | (go_simp; done) | (go_simp; with_reducible rfl)
        try simp only [Act.put]
        try simp only [List.setIfInBounds_toArray]
        try simp only [List.set_cons_succ]
        try simp only [List.set_cons_zero]
        refine wpAnyH_take (i := 10) (v := ?_) (at_list rfl) (by kernel_rfl) (by kernel_rfl) (by kernel_rfl) (fun _ _ _ h => h) (Or.inl ⟨by rfl, ?_⟩) (by assumption) ?_
        rotate_left
        · intro w hSw; (try dsimp only at hSw); first | (go_simp; done) | (go_simp; with_reducible rfl)
        try simp only [Act.put]
        try simp only [List.setIfInBounds_toArray]
        try simp only [List.set_cons_succ]
        try simp only [List.set_cons_zero]
        refine wpAnyH_take (i := 11) (v := ?_) (at_list rfl) (by kernel_rfl) (by kernel_rfl) (by kernel_rfl) (fun _ _ _ h => h) (Or.inl ⟨by rfl, ?_⟩) (by assumption) ?_
        rotate_left
        · intro w hSw; (try dsimp only at hSw); first | (go_simp; done) | (go_simp; with_reducible rfl)
        try simp only [Act.put]
        try simp only [List.setIfInBounds_toArray]
        try simp only [List.set_cons_succ]
        try simp only [List.set_cons_zero]
        refine wpAnyH_ready (rs := [9]) (by kernel_rfl) (by simp) ?_
        refine AllReadyH.cons (at_list rfl) (fun K hK => ?_) AllReadyH.nil
        go_simp
        refine (getBits_any S.N (S.reg q) 71 q b k n _ (unhide HSN) hb0 b1 n1 hk0 h32).mono ?_; rintro e w8 ⟨rfl, hb80⟩; have hb8 : Below w7.heap.size w7 w8 := (Below.refl w7.heap.size w7).drew.trans hb80; have HM8 := hide ((unhide HM7).bel hb8); have hS8 := And.intro (blk_below (unhide HBOX) hb8) (unhide HM8).bits; have HB8 := hide ((unhide HB7).trans (hb8.mono (Nat.le_of_lt hgs))); have hfr8 := hfr w8 (unhide HM8); have hrc8 := hrc w8 (unhide HM8); dsimp only
        refine hK.out _ _ (hS8) (fun hHeld => ?_)
        clear hK K
        try simp only [Act.put]
        try simp only [List.setIfInBounds_toArray]
        try simp only [List.set_cons_succ]
        try simp only [List.set_cons_zero]
        refine wpAnyH_take (i := 12) (v := ?_) (at_list rfl) (by kernel_rfl) (by kernel_rfl) (by kernel_rfl) (fun _ _ _ h => h) (Or.inl ⟨by rfl, ?_⟩) (by assumption) ?_
        rotate_left
        · intro w hSw; (try dsimp only at hSw); first | (go_simp; done) | (go_simp; with_reducible rfl)
        try simp only [Act.put]
        try simp only [List.setIfInBounds_toArray]
        try simp only [List.set_cons_succ]
        try simp only [List.set_cons_zero]
        have hS9 := And.intro (blk_set_other (j := q) (.int .i64 (putTo (low (S.reg q)) S.N k.toNat b.toNat n.toNat : Nat)) hHeld.1 hsb.symm) ((unhide HM8).setReg hq (putTo (low (S.reg q)) S.N k.toNat b.toNat n.toNat : Nat)).bits
        refine wpAnyH_ready (rs := [13]) (by kernel_rfl) (by simp) ?_
        refine AllReadyH.cons (at_list rfl) (fun K hK => ?_) AllReadyH.nil
        go_simp
        refine hK.out _ _ (hS9) (fun hHeld => ?_)
        clear hK K
        try simp only [Act.put]
        try simp only [List.setIfInBounds_toArray]
        try simp only [List.set_cons_succ]
        try simp only [List.set_cons_zero]
        refine wpAnyH_done (by kernel_rfl) ?_ _
        refine NoPanic.normal ?_
        clear hd0 hd1 hd hfr hrc
        go_wp2
        go_roundw
        case rel => exact ⟨a + 1, { S with reg := upd S.reg q (putTo (low (S.reg q)) S.N k.toNat b.toNat n.toNat : Nat) }, by go_num, by omega, (unhide HM8).setReg hq _, unhide HSN, (unhide HB8).setCell (Nat.le_refl _) _, unhide HR⟩
        case measure => simp [intOf]; omega
      · obtain ⟨n1, b1, h8, h32⟩ := known_move (unhide HKN) (.inr rfl)
        simp only at n1 b1 h8 h32
        have HR := hide (show runL (L.drop (a + 1)) { S with N := putTo S.N (low (S.reg q)) b.toNat k.toNat n.toNat } = runL L s by have := unhide HRUN; rw [act_put] at this; simpa using this)
        have HPN := hide (show putTo S.N (low (S.reg q)) b.toNat k.toNat n.toNat < 18446744073709551616 from putTo_lt (m := 64) _ _ _ _ (unhide HSN) (by omega))
        go_wp2
        clear hd7
        refine wp_region_noPanic ?_
        refine wp_region_held_drew (S := fun wx => wx.heap[sb]? = some (.cells #[.int .u8 80, .int .i64 q, .int .i64 b, .int .i64 k, .int .i64 n] 78 (0, 0))) (by kernel_rfl) (unhide HBOX) (fun hHeld => ?_)
        have hn7 : w7.drew.cell? ⟨g, 16, none⟩ = some (.int .u64 S.N) := (unhide HM7).bits
        refine wpAnyH_take (i := 0) (v := ?_) (at_list rfl) (by kernel_rfl) (by kernel_rfl) (by kernel_rfl) (fun _ _ _ h => h) (Or.inl ⟨by rfl, ?_⟩) (by assumption) ?_
        rotate_left
        · intro w hSw; (try dsimp only at hSw); first | (go_simp; done) | (go_simp; with_reducible rfl)
        try simp only [Act.put]
        try simp only [List.setIfInBounds_toArray]
        try simp only [List.set_cons_succ]
        try simp only [List.set_cons_zero]
        refine wpAnyH_take (i := 1) (v := ?_) (at_list rfl) (by kernel_rfl) (by kernel_rfl) (by kernel_rfl) (fun _ _ _ h => h) (Or.inl ⟨by rfl, ?_⟩) (by assumption) ?_
        rotate_left
        · intro w hSw; (try dsimp only at hSw); first | (go_simp; done) | (go_simp; with_reducible rfl)
        try simp only [Act.put]
        try simp only [List.setIfInBounds_toArray]
        try simp only [List.set_cons_succ]
        try simp only [List.set_cons_zero]
        refine wpAnyH_take (i := 2) (v := ?_) (at_list rfl) (by kernel_rfl) (by kernel_rfl) (by kernel_rfl) (fun _ _ _ h => h) (Or.inl ⟨by rfl, ?_⟩) (by assumption) ?_
        rotate_left
        · intro w hSw; (try dsimp only at hSw); first | (go_simp; done) | (go_simp; with_reducible rfl)
        try simp only [Act.put]
        try simp only [List.setIfInBounds_toArray]
        try simp only [List.set_cons_succ]
        try simp only [List.set_cons_zero]
        refine wpAnyH_take (i := 3) (v := ?_) (at_list rfl) (by kernel_rfl) (by kernel_rfl) (by kernel_rfl) (fun _ _ _ h => h) (Or.inl ⟨by rfl, ?_⟩) (by assumption) ?_
        rotate_left
        · intro w hSw; (try dsimp only at hSw); first | (go_simp; done) | (go_simp; with_reducible rfl)
        try simp only [Act.put]
        try simp only [List.setIfInBounds_toArray]
        try simp only [List.set_cons_succ]
        try simp only [List.set_cons_zero]
        refine wpAnyH_take (i := 5) (v := ?_) (at_list rfl) (by kernel_rfl) (by kernel_rfl) (by kernel_rfl) (fun _ _ _ h => h) (Or.inl ⟨by rfl, ?_⟩) (by assumption) ?_
        rotate_left
        · intro w hSw; (try dsimp only at hSw); first | (go_simp; done) | (go_simp; with_reducible rfl)
        try simp only [Act.put]
        try simp only [List.setIfInBounds_toArray]
        try simp only [List.set_cons_succ]
        try simp only [List.set_cons_zero]
        refine wpAnyH_take (i := 6) (v := ?_) (at_list rfl) (by kernel_rfl) (by kernel_rfl) (by kernel_rfl) (fun _ _ _ h => h) (Or.inl ⟨by rfl, ?_⟩) (by assumption) ?_
        rotate_left
        · intro w hSw; (try dsimp only at hSw); first | (go_simp; done) | (go_simp; with_reducible rfl)
        try simp only [Act.put]
        try simp only [List.setIfInBounds_toArray]
        try simp only [List.set_cons_succ]
        try simp only [List.set_cons_zero]
        refine wpAnyH_ready (rs := [4]) (by kernel_rfl) (by simp) ?_
        refine AllReadyH.cons (at_list rfl) (fun K hK => ?_) AllReadyH.nil
        go_simp
        refine hK.out _ _ (hHeld) (fun hHeld => ?_)
        clear hK K
        try simp only [Act.put]
        try simp only [List.setIfInBounds_toArray]
        try simp only [List.set_cons_succ]
        try simp only [List.set_cons_zero]
        refine wpAnyH_ready (rs := [7]) (by kernel_rfl) (by simp) ?_
        refine AllReadyH.cons (at_list rfl) (fun K hK => ?_) AllReadyH.nil
        go_simp
        refine (putBits_any S.N (S.reg q) 80 q b k n _ (unhide HSN) hb0 b1 n1 h8 hk0 h32).mono ?_; rintro e w8 ⟨rfl, hb80⟩; have hb8 : Below w7.heap.size w7 w8 := (Below.refl w7.heap.size w7).drew.trans hb80; have HM8 := hide ((unhide HM7).bel hb8); have hS8 := blk_below (unhide HBOX) hb8; have HB8 := hide ((unhide HB7).trans (hb8.mono (Nat.le_of_lt hgs))); have hfr8 := (unhide HM8).free 16; have hrc8 := (unhide HM8).bits; dsimp only
        refine hK.out _ _ (hS8) (fun hHeld => ?_)
        clear hK K
        try simp only [Act.put]
        try simp only [List.setIfInBounds_toArray]
        try simp only [List.set_cons_succ]
        try simp only [List.set_cons_zero]
        refine wpAnyH_take (i := 8) (v := ?_) (at_list rfl) (by kernel_rfl) (by kernel_rfl) (by kernel_rfl) (fun _ _ _ h => h) (Or.inl ⟨by rfl, ?_⟩) (by assumption) ?_
        rotate_left
        · intro w hSw; (try dsimp only at hSw); first | (go_simp; done) | (go_simp; with_reducible rfl)
        try simp only [Act.put]
        try simp only [List.setIfInBounds_toArray]
        try simp only [List.set_cons_succ]
        try simp only [List.set_cons_zero]
        refine wpAnyH_take (i := 9) (v := ?_) (at_list rfl) (by kernel_rfl) (by kernel_rfl) (by kernel_rfl) (fun _ _ _ h => h) (Or.inl ⟨by rfl, ?_⟩) (by assumption) ?_
        rotate_left
        · intro w hSw; (try dsimp only at hSw); first | (go_simp; done) | (go_simp; with_reducible rfl)
        try simp only [Act.put]
        try simp only [List.setIfInBounds_toArray]
        try simp only [List.set_cons_succ]
        try simp only [List.set_cons_zero]
        have hS9 := blk_set_other (j := 16) (.int .u64 (putTo S.N (low (S.reg q)) b.toNat k.toNat n.toNat : Nat)) hHeld hsb.symm
        refine wpAnyH_ready (rs := [10]) (by kernel_rfl) (by simp) ?_
        refine AllReadyH.cons (at_list rfl) (fun K hK => ?_) AllReadyH.nil
        go_simp
        refine hK.out _ _ (hS9) (fun hHeld => ?_)
        clear hK K
        try simp only [Act.put]
        try simp only [List.setIfInBounds_toArray]
        try simp only [List.set_cons_succ]
        try simp only [List.set_cons_zero]
        refine wpAnyH_done (by kernel_rfl) ?_ _
        refine NoPanic.normal ?_
        clear hd
        go_wp2
        go_roundw
        case rel => exact ⟨a + 1, { S with N := putTo S.N (low (S.reg q)) b.toNat k.toNat n.toNat }, by go_num, by omega, (unhide HM8).setBits _, unhide HPN, (unhide HB8).setCell (Nat.le_refl _) _, unhide HR⟩
        case measure => simp [intOf]; omega
      · obtain ⟨n1, h32⟩ := known_x (unhide HKN) rfl
        simp only at n1 h32
        have HR := hide (show runL (L.drop (a + 1)) { S with reg := upd S.reg q (extV (S.reg q) n) } = runL L s by have := unhide HRUN; rw [act_x] at this; simpa using this)
        go_wp2
        clear hd7
        refine wp_region_noPanic ?_
        refine wp_region_held_drew (S := fun wx => wx.heap[sb]? = some (.cells #[.int .u8 88, .int .i64 q, .int .i64 b, .int .i64 k, .int .i64 n] 78 (0, 0))) (by kernel_rfl) (unhide HBOX) (fun hHeld => ?_)
        have hb8 : Below w7.heap.size w7 w7.drew := (Below.refl w7.heap.size w7).drew
        have HM8 := hide ((unhide HM7).bel hb8)
        have HB8 := hide ((unhide HB7).trans (hb8.mono (Nat.le_of_lt hgs)))
        have hfr8 := (unhide HM8).free q
        have hrc8 := (unhide HM8).reg hq
        clear hb8
        refine wpAnyH_take (i := 0) (v := ?_) (at_list rfl) (by kernel_rfl) (by kernel_rfl) (by kernel_rfl) (fun _ _ _ h => h) (Or.inl ⟨by rfl, ?_⟩) (by assumption) ?_
        rotate_left
        · intro w hSw; (try dsimp only at hSw); first | (go_simp; done) | (go_simp; with_reducible rfl)
        try simp only [Act.put]
        try simp only [List.setIfInBounds_toArray]
        try simp only [List.set_cons_succ]
        try simp only [List.set_cons_zero]
        refine wpAnyH_take (i := 1) (v := ?_) (at_list rfl) (by kernel_rfl) (by kernel_rfl) (by kernel_rfl) (fun _ _ _ h => h) (Or.inl ⟨by rfl, ?_⟩) (by assumption) ?_
        rotate_left
        · intro w hSw; (try dsimp only at hSw); first | (go_simp; done) | (go_simp; with_reducible rfl)
        try simp only [Act.put]
        try simp only [List.setIfInBounds_toArray]
        try simp only [List.set_cons_succ]
        try simp only [List.set_cons_zero]
        refine wpAnyH_take (i := 2) (v := ?_) (at_list rfl) (by kernel_rfl) (by kernel_rfl) (by kernel_rfl) (fun _ _ _ h => h) (Or.inl ⟨by rfl, ?_⟩) (by assumption) ?_
        rotate_left
        · intro w hSw; (try dsimp only at hSw); first | (go_simp; done) | (go_simp; with_reducible rfl)
        try simp only [Act.put]
        try simp only [List.setIfInBounds_toArray]
        try simp only [List.set_cons_succ]
        try simp only [List.set_cons_zero]
        refine wpAnyH_take (i := 3) (v := ?_) (at_list rfl) (by kernel_rfl) (by kernel_rfl) (by kernel_rfl) (fun _ _ _ h => h) (Or.inl ⟨by rfl, ?_⟩) (by assumption) ?_
        rotate_left
        · intro w hSw; (try dsimp only at hSw); first | (go_simp; done) | (go_simp; with_reducible rfl)
        try simp only [Act.put]
        try simp only [List.setIfInBounds_toArray]
        try simp only [List.set_cons_succ]
        try simp only [List.set_cons_zero]
        refine wpAnyH_take (i := 4) (v := ?_) (at_list rfl) (by kernel_rfl) (by kernel_rfl) (by kernel_rfl) (fun _ _ _ h => h) (Or.inl ⟨by rfl, ?_⟩) (by assumption) ?_
        rotate_left
        · intro w hSw; (try dsimp only at hSw); first | (go_simp; done) | (go_simp; with_reducible rfl)
        try simp only [Act.put]
        try simp only [List.setIfInBounds_toArray]
        try simp only [List.set_cons_succ]
        try simp only [List.set_cons_zero]
        refine wpAnyH_take (i := 5) (v := ?_) (at_list rfl) (by kernel_rfl) (by kernel_rfl) (by kernel_rfl) (fun _ _ _ h => h) (Or.inl ⟨by rfl, ?_⟩) (by assumption) ?_
        rotate_left
        · intro w hSw; (try dsimp only at hSw); first | (go_simp; done) | (go_simp; with_reducible rfl)
        try simp only [Act.put]
        try simp only [List.setIfInBounds_toArray]
        try simp only [List.set_cons_succ]
        try simp only [List.set_cons_zero]
        refine wpAnyH_take (i := 7) (v := ?_) (at_list rfl) (by kernel_rfl) (by kernel_rfl) (by kernel_rfl) (fun _ _ _ h => h) (Or.inl ⟨by rfl, ?_⟩) (by assumption) ?_
        rotate_left
        · intro w hSw; (try dsimp only at hSw); first | (go_simp; done) | (go_simp; with_reducible rfl)
        try simp only [Act.put]
        try simp only [List.setIfInBounds_toArray]
        try simp only [List.set_cons_succ]
        try simp only [List.set_cons_zero]
        refine wpAnyH_take (i := 8) (v := ?_) (at_list rfl) (by kernel_rfl) (by kernel_rfl) (by kernel_rfl) (fun _ _ _ h => h) (Or.inl ⟨by rfl, ?_⟩) (by assumption) ?_
        rotate_left
        · intro w hSw; (try dsimp only at hSw); first | (go_simp; done) | (go_simp; with_reducible rfl)
        try simp only [Act.put]
        try simp only [List.setIfInBounds_toArray]
        try simp only [List.set_cons_succ]
        try simp only [List.set_cons_zero]
        refine wpAnyH_ready (rs := [6]) (by kernel_rfl) (by simp) ?_
        refine AllReadyH.cons (at_list rfl) (fun K hK => ?_) AllReadyH.nil
        go_simp
        refine (extended_any (S.reg q) n _ n1 h32).mono ?_; rintro e w8 ⟨rfl, rfl⟩; dsimp only
        refine hK.out _ _ (hHeld) (fun hHeld => ?_)
        clear hK K
        try simp only [Act.put]
        try simp only [List.setIfInBounds_toArray]
        try simp only [List.set_cons_succ]
        try simp only [List.set_cons_zero]
        refine wpAnyH_take (i := 9) (v := ?_) (at_list rfl) (by kernel_rfl) (by kernel_rfl) (by kernel_rfl) (fun _ _ _ h => h) (Or.inl ⟨by rfl, ?_⟩) (by assumption) ?_
        rotate_left
        · intro w hSw; (try dsimp only at hSw); first | (go_simp; done) | (go_simp; with_reducible rfl)
        try simp only [Act.put]
        try simp only [List.setIfInBounds_toArray]
        try simp only [List.set_cons_succ]
        try simp only [List.set_cons_zero]
        have hS9 := blk_set_other (j := q) (.int .i64 (extV (S.reg q) n)) hHeld hsb.symm
        refine wpAnyH_ready (rs := [10]) (by kernel_rfl) (by simp) ?_
        refine AllReadyH.cons (at_list rfl) (fun K hK => ?_) AllReadyH.nil
        go_simp
        refine hK.out _ _ (hS9) (fun hHeld => ?_)
        clear hK K
        try simp only [Act.put]
        try simp only [List.setIfInBounds_toArray]
        try simp only [List.set_cons_succ]
        try simp only [List.set_cons_zero]
        refine wpAnyH_done (by kernel_rfl) ?_ _
        refine NoPanic.normal ?_
        clear hd
        go_wp2
        go_roundw
        case rel => exact ⟨a + 1, { S with reg := upd S.reg q (extV (S.reg q) n) }, by go_num, by omega, (unhide HM8).setReg hq _, unhide HSN, (unhide HB8).setCell (Nat.le_refl _) _, unhide HR⟩
        case measure => simp [intOf]; omega
      · obtain ⟨n1, h32, k1⟩ := known_range (unhide HKN) rfl
        simp only at n1 h32 k1
        have hact := act_range (r := (q : Int)) (b := b) (k := k) (n := n) S
        rw [Int.toNat_natCast] at hact
        have HFB := hide (show fitsB (if (k == 1) = true then 115 else 117) n (S.reg q) = fitsB (if k = 1 then 115 else 117) n (S.reg q) by simp)
        cases hfit : fitsB (if k = 1 then 115 else 117) n (S.reg q) with
        | true =>
          have HR := hide (show runL (L.drop (a + 1)) S = runL L s by have := unhide HRUN; rw [hact, hfit] at this; simpa using this)
          rw [hfit] at HFB
          clear hact hfit
          go_wp2_with fail
          refine (inRange_any (S.reg q) n _ _ n1 h32).mono ?_
          rintro e w8 ⟨rfl, rfl⟩
          rw [unhide HFB]
          go_wp2
          go_roundw
          case rel => exact ⟨a + 1, S, by go_num, by omega, unhide HM7, unhide HSN, unhide HB7, unhide HR⟩
          case measure => simp [intOf]; omega
        | false =>
          have HR := hide (show (S, (9 : Int), (q : Int)) = runL L s by have := unhide HRUN; rw [hact, hfit] at this; simpa using this)
          rw [hfit] at HFB
          clear hact hfit
          go_wp2_with fail
          refine (inRange_any (S.reg q) n _ _ n1 h32).mono ?_
          rintro e w8 ⟨rfl, rfl⟩
          rw [unhide HFB]
          go_wp2
          clear hd7
          refine wp_region_noPanic ?_
          refine wp_region_held_drew (S := fun wx => wx.heap[sb]? = some (.cells #[.int .u8 82, .int .i64 q, .int .i64 b, .int .i64 k, .int .i64 n] 78 (0, 0))) (by kernel_rfl) (unhide HBOX) (fun hHeld => ?_)
          have hb8 : Below w7.heap.size w7 w7.drew := (Below.refl w7.heap.size w7).drew
          have HM8 := hide ((unhide HM7).bel hb8)
          have HB8 := hide ((unhide HB7).trans (hb8.mono (Nat.le_of_lt hgs)))
          clear hb8
          refine wpAnyH_take (i := 0) (v := ?_) (at_list rfl) (by kernel_rfl) (by kernel_rfl) (by kernel_rfl) (fun _ _ _ h => h) (Or.inl ⟨by rfl, ?_⟩) (by assumption) ?_
          rotate_left
          · intro w hSw; (try dsimp only at hSw); first | (go_simp; done) | (go_simp; with_reducible rfl)
          try simp only [Act.put]
          try simp only [List.setIfInBounds_toArray]
          try simp only [List.set_cons_succ]
          try simp only [List.set_cons_zero]
          refine wpAnyH_take (i := 1) (v := ?_) (at_list rfl) (by kernel_rfl) (by kernel_rfl) (by kernel_rfl) (fun _ _ _ h => h) (Or.inl ⟨by rfl, ?_⟩) (by assumption) ?_
          rotate_left
          · intro w hSw; (try dsimp only at hSw); first | (go_simp; done) | (go_simp; with_reducible rfl)
          try simp only [Act.put]
          try simp only [List.setIfInBounds_toArray]
          try simp only [List.set_cons_succ]
          try simp only [List.set_cons_zero]
          refine wpAnyH_take (i := 2) (v := ?_) (at_list rfl) (by kernel_rfl) (by kernel_rfl) (by kernel_rfl) (fun _ _ _ h => h) (Or.inl ⟨by rfl, ?_⟩) (by assumption) ?_
          rotate_left
          · intro w hSw; (try dsimp only at hSw); first | (go_simp; done) | (go_simp; with_reducible rfl)
          try simp only [Act.put]
          try simp only [List.setIfInBounds_toArray]
          try simp only [List.set_cons_succ]
          try simp only [List.set_cons_zero]
          refine wpAnyH_take (i := 3) (v := ?_) (at_list rfl) (by kernel_rfl) (by kernel_rfl) (by kernel_rfl) (fun _ _ _ h => h) (Or.inl ⟨by rfl, ?_⟩) (by assumption) ?_
          rotate_left
          · intro w hSw; (try dsimp only at hSw); first | (go_simp; done) | (go_simp; with_reducible rfl)
          try simp only [Act.put]
          try simp only [List.setIfInBounds_toArray]
          try simp only [List.set_cons_succ]
          try simp only [List.set_cons_zero]
          refine wpAnyH_done (by kernel_rfl) ?_ _
          refine NoPanic.normal ?_
          clear hd
          go_wp2
          go_ret2
          exact ⟨by rw [← unhide HR]; rfl, by rw [← unhide HR]; exact unhide HM8, by rw [← unhide HR]; exact unhide HSN, unhide HB8⟩
      · obtain ⟨n1, hnl⟩ := known_jump (unhide HKN) rfl
        simp only at n1 hnl
        have hn255 := (unhide HBY).n1
        simp only at hn255
        have hact := act_jump (r := (q : Int)) (b := b) (k := k) (n := n) S
        rw [Int.toNat_natCast] at hact
        obtain ⟨m, rfl⟩ : ∃ m : Nat, n = m := ⟨n.toNat, by omega⟩
        by_cases hjb : S.reg q = b
        · have HR := hide (show runL (L.drop (a + 1)) S = runL L s by have := unhide HRUN; rw [hact, if_pos hjb] at this; simpa using this)
          have hne : (S.reg q != b) = false := by simp [hjb]
          clear hact hjb
          go_wp2
          go_roundw
          case rel => exact ⟨a + 1, S, by go_num, by omega, unhide HM7, unhide HSN, unhide HB7, unhide HR⟩
          case measure => simp [intOf]; omega
        · have HR := hide (show runL (L.drop (a + 1 + m)) S = runL L s by have := unhide HRUN; rw [hact, if_neg hjb] at this; simpa [List.drop_drop, Nat.add_comm, Nat.add_left_comm, Nat.add_assoc] using this)
          have hne : (S.reg q != b) = true := by simp [hjb]
          clear hact hjb
          go_wp2
          go_roundw
          case rel => exact ⟨a + 1 + m, S, by go_num, by omega, unhide HM7, unhide HSN, unhide HB7, unhide HR⟩
          case measure => simp [intOf]; omega
      · have HR := hide (show runL (L.drop (a + 1)) { S with mark := upd S.mark q true } = runL L s by have := unhide HRUN; rw [act_mark] at this; simpa using this)
        go_wp2
        clear hd7
        refine wp_region_noPanic ?_
        refine wp_region_held_drew (S := fun wx => wx.heap[sb]? = some (.cells #[.int .u8 65, .int .i64 q, .int .i64 b, .int .i64 k, .int .i64 n] 78 (0, 0))) (by kernel_rfl) (unhide HBOX) (fun hHeld => ?_)
        have hb8 : Below w7.heap.size w7 w7.drew := (Below.refl w7.heap.size w7).drew
        have HM8 := hide ((unhide HM7).bel hb8)
        have HB8 := hide ((unhide HB7).trans (hb8.mono (Nat.le_of_lt hgs)))
        have hfr8 := (unhide HM8).free (8 + q)
        have hrc8 := (unhide HM8).mark hq
        clear hb8
        refine wpAnyH_take (i := 0) (v := ?_) (at_list rfl) (by kernel_rfl) (by kernel_rfl) (by kernel_rfl) (fun _ _ _ h => h) (Or.inl ⟨by rfl, ?_⟩) (by assumption) ?_
        rotate_left
        · intro w hSw; (try dsimp only at hSw); first | (go_simp; done) | (go_simp; with_reducible rfl)
        try simp only [Act.put]
        try simp only [List.setIfInBounds_toArray]
        try simp only [List.set_cons_succ]
        try simp only [List.set_cons_zero]
        refine wpAnyH_take (i := 1) (v := ?_) (at_list rfl) (by kernel_rfl) (by kernel_rfl) (by kernel_rfl) (fun _ _ _ h => h) (Or.inl ⟨by rfl, ?_⟩) (by assumption) ?_
        rotate_left
        · intro w hSw; (try dsimp only at hSw); first | (go_simp; done) | (go_simp; with_reducible rfl)
        try simp only [Act.put]
        try simp only [List.setIfInBounds_toArray]
        try simp only [List.set_cons_succ]
        try simp only [List.set_cons_zero]
        refine wpAnyH_take (i := 2) (v := ?_) (at_list rfl) (by kernel_rfl) (by kernel_rfl) (by kernel_rfl) (fun _ _ _ h => h) (Or.inl ⟨by rfl, ?_⟩) (by assumption) ?_
        rotate_left
        · intro w hSw; (try dsimp only at hSw); first | (go_simp; done) | (go_simp; with_reducible rfl)
        try simp only [Act.put]
        try simp only [List.setIfInBounds_toArray]
        try simp only [List.set_cons_succ]
        try simp only [List.set_cons_zero]
        refine wpAnyH_take (i := 3) (v := ?_) (at_list rfl) (by kernel_rfl) (by kernel_rfl) (by kernel_rfl) (fun _ _ _ h => h) (Or.inl ⟨by rfl, ?_⟩) (by assumption) ?_
        rotate_left
        · intro w hSw; (try dsimp only at hSw); first | (go_simp; done) | (go_simp; with_reducible rfl)
        try simp only [Act.put]
        try simp only [List.setIfInBounds_toArray]
        try simp only [List.set_cons_succ]
        try simp only [List.set_cons_zero]
        refine wpAnyH_take (i := 4) (v := ?_) (at_list rfl) (by kernel_rfl) (by kernel_rfl) (by kernel_rfl) (fun _ _ _ h => h) (Or.inl ⟨by rfl, ?_⟩) (by assumption) ?_
        rotate_left
        · intro w hSw; (try dsimp only at hSw); first | (go_simp; done) | (go_simp; with_reducible rfl)
        try simp only [Act.put]
        try simp only [List.setIfInBounds_toArray]
        try simp only [List.set_cons_succ]
        try simp only [List.set_cons_zero]
        refine wpAnyH_take (i := 5) (v := ?_) (at_list rfl) (by kernel_rfl) (by kernel_rfl) (by kernel_rfl) (fun _ _ _ h => h) (Or.inl ⟨by rfl, ?_⟩) (by assumption) ?_
        rotate_left
        · intro w hSw; (try dsimp only at hSw); first | (go_simp; done) | (go_simp; with_reducible rfl)
        try simp only [Act.put]
        try simp only [List.setIfInBounds_toArray]
        try simp only [List.set_cons_succ]
        try simp only [List.set_cons_zero]
        have hS9 := blk_set_other (j := 8 + q) (.bool true) hHeld hsb.symm
        refine wpAnyH_ready (rs := [6]) (by kernel_rfl) (by simp) ?_
        refine AllReadyH.cons (at_list rfl) (fun K hK => ?_) AllReadyH.nil
        go_simp
        refine hK.out _ _ (hS9) (fun hHeld => ?_)
        clear hK K
        try simp only [Act.put]
        try simp only [List.setIfInBounds_toArray]
        try simp only [List.set_cons_succ]
        try simp only [List.set_cons_zero]
        refine wpAnyH_done (by kernel_rfl) ?_ _
        refine NoPanic.normal ?_
        clear hd
        go_wp2
        go_roundw
        case rel => exact ⟨a + 1, { S with mark := upd S.mark q true }, by go_num, by omega, (unhide HM8).setMark hq, unhide HSN, (unhide HB8).setCell (Nat.le_refl _) _, unhide HR⟩
        case measure => simp [intOf]; omega
    · have HR := hide (show (S, (0 : Int), (0 : Int)) = runL L s by rw [← unhide HRUN, List.drop_of_length_le (by omega), runL_nil])
      go_wp2
      go_ret2
      exact ⟨by rw [← unhide HR]; rfl, by rw [← unhide HR]; exact unhide HMA, by rw [← unhide HR]; exact unhide HSN, unhide HBW⟩

end Go.Proofs.Ytljodhcfimklkab
