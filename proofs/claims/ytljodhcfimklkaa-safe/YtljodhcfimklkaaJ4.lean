import Derived.Test.YtljodhcfimklkaaJ3
namespace Go.Proofs.Ytljodhcfimklkaa
open Go.RowKit

def inAt (L : List Ins) (k : Nat) : Ins := L.getD k ⟨0, 0, 0, 0, 0⟩
theorem inAt_eq (L : List Ins) (k : Nat) (h : k < L.length) : inAt L k = L[k] := by simp [inAt, h]
theorem inAt_some (L : List Ins) (k : Nat) (h : k < L.length) : L[k]? = some (inAt L k) := by rw [inAt_eq L k h]; simp [h]
theorem drop_inAt (L : List Ins) (k : Nat) (h : k < L.length) : L.drop k = inAt L k :: L.drop (k + 1) := by
  rw [inAt_eq L k h]; exact List.drop_eq_getElem_cons h

theorem InsAt.opened {w : World} {v : Value} {L : List Ins} (h : InsAt w v L) :
    (L = [] ∧ (∃ a c, v = .slice a 0 c)) ∨ ∃ g cap, v = .slice (some ⟨g, 0, none⟩) L.length cap ∧ g < w.heap.size ∧ L.length ≤ cap ∧ cap ≤ maxLen ∧
      ∀ k j, k < L.length → j < 5 → w.cell? ⟨g, k * 5 + j, none⟩ = (inAt L k).cells[j]? := by
  have h' := h
  obtain ⟨hl, h2⟩ := h
  rcases h2 with ⟨rfl, hn⟩ | ⟨g, cap, cur, rfl, _, hg, hnc, hcm, hcs, ht⟩
  · exact .inl ⟨List.eq_nil_of_length_eq_zero hn, _, _, rfl⟩
  · refine .inr ⟨g, cap, rfl, (Array.getElem?_eq_some_iff.1 hg).1, hnc, hcm, fun k j hk hj => ?_⟩
    obtain ⟨g', cap', e1, e2, _⟩ := row_cell h' (k * 5 + j) (by omega)
    cases e1
    rw [e2, flat_get Ins.cells 5 (fun _ => rfl) L k j hk hj, inAt_eq L k hk]
theorem cells5 {w wx : World} {g : Nat} {L : List Ins} (hc : ∀ k j, k < L.length → j < 5 → w.cell? ⟨g, k * 5 + j, none⟩ = (inAt L k).cells[j]?) (hg : g < w.heap.size) (hb : Below w.heap.size w wx) {k : Nat} (hk : k < L.length) :
    wx.cell? ⟨g, k * 5, none⟩ = some (.int .u8 (inAt L k).op) ∧ wx.cell? ⟨g, k * 5 + 1, none⟩ = some (.int .i64 (inAt L k).r) ∧ wx.cell? ⟨g, k * 5 + 2, none⟩ = some (.int .i64 (inAt L k).b) ∧ wx.cell? ⟨g, k * 5 + 3, none⟩ = some (.int .i64 (inAt L k).k) ∧ wx.cell? ⟨g, k * 5 + 4, none⟩ = some (.int .i64 (inAt L k).n) := by
  refine ⟨?_, ?_, ?_, ?_, ?_⟩
  · rw [hb.cell (p := ⟨g, k * 5, none⟩) hg]; exact hc k 0 hk (by omega)
  · rw [hb.cell (p := ⟨g, k * 5 + 1, none⟩) hg]; exact hc k 1 hk (by omega)
  · rw [hb.cell (p := ⟨g, k * 5 + 2, none⟩) hg]; exact hc k 2 hk (by omega)
  · rw [hb.cell (p := ⟨g, k * 5 + 3, none⟩) hg]; exact hc k 3 hk (by omega)
  · rw [hb.cell (p := ⟨g, k * 5 + 4, none⟩) hg]; exact hc k 4 hk (by omega)

set_option maxRecDepth 100000 in
set_option maxHeartbeats 4000000 in
theorem run_any (g : Nat) (vp : Value) (L : List Ins) (s : St) (w0 w : World) (hp : InsAt w0 vp L) (h0 : w0.heap.size ≤ g) (hb0 : Below w0.heap.size w0 w) (hm : MachAt w g s) (hN : s.N < 18446744073709551616) (hf : Fine L) (hl : L.length ≤ 96) :
    Calls Try.prog 56 #[.pointer (some ⟨g, 0, none⟩), vp] w fun e w' => e = .returned (.tuple #[.int .i64 (runL L s).2.1, .int .i64 (runL L s).2.2]) ∧ MachAt w' g (runL L s).1 ∧ (runL L s).1.N < 18446744073709551616 ∧ Below g w w' := by
  rcases hp.opened with ⟨rfl, a, cc, rfl⟩ | ⟨gp, cap, rfl, hgp, hcap, hcm, hc⟩
  · go_enter Try.func56, Try.ntmps56
    go_wp2
    refine wp_loop_rounds 1 ?_
    rw [rounds_succ]
    go_wp2
    go_ret2
    exact ⟨rfl, hm, hN, Below.refl _ _⟩
  have HP := hide hc
  have HB0 := hide hb0
  have HM := hide hm
  have HN := hide hN
  have HF := hide hf
  clear hc hb0 hm hN hf hp
  go_enter Try.func56, Try.ntmps56
  go_wp2
  go_loopw [6] (fun i wr => ∃ (a : Nat) (S : St), i = .int .i64 a ∧ a ≤ L.length ∧ MachAt wr g S ∧ S.N < 18446744073709551616 ∧ Below g w wr ∧ runL (L.drop a) S = runL L s) (fun i _ => L.length - (intOf i).toNat)
  case atStart => exact ⟨0, s, rfl, by omega, unhide HM, unhide HN, Below.refl _ _, rfl⟩
  case round =>
    obtain ⟨a, S, rfl, ha, hma, hSN, hbw, hrun⟩ := hrel
    have HMA := hide hma
    have HSN := hide hSN
    have HBW := hide hbw
    have HRUN := hide hrun
    clear hma hSN hbw hrun
    by_cases hlt : a < L.length
    · obtain ⟨x, HX⟩ : ∃ x, Hid (x = inAt L a) := ⟨_, hide rfl⟩
      have hcx := cells5 (unhide HP) hgp ((unhide HB0).trans ((unhide HBW).mono h0)) hlt
      rw [← unhide HX] at hcx
      obtain ⟨hbyt, hkn⟩ := unhide HF a x (by rw [unhide HX]; exact inAt_some L a hlt)
      rw [drop_inAt L a hlt, ← unhide HX, runL_cons] at HRUN
      obtain ⟨op, r, b, k, n⟩ := x
      obtain ⟨c0, c1, c2, c3, c4⟩ := hcx
      have HKN := hide hkn
      have HBY := hide hbyt
      have hr7 := known_r hkn
      have hop := known_op hkn
      simp only at hr7 hop c0 c1 c2 c3 c4
      have hr0 : 0 ≤ r := hbyt.r0
      obtain ⟨q, rfl⟩ : ∃ q : Nat, r = q := ⟨r.toNat, by omega⟩
      have hq : q < 8 := by omega
      clear hkn hbyt
      have hi0 : (0 : Int) ≤ (a : Int) := by omega
      have hi1 : (a : Int) < (L.length : Int) := by omega
      have hreg := (unhide HMA).reg hq
      have hlg := (unhide HMA).lt
      have hbx := fun (wx : World) (h : Below (wr.heap.size + 1) (wr.alloc (.cells #[.int .u8 op, .int .i64 q, .int .i64 b, .int .i64 k, .int .i64 n] 128)) wx) => box_cell h
      have hrg : ∀ wx : World, Below (wr.heap.size + 1) (wr.alloc (.cells #[.int .u8 op, .int .i64 q, .int .i64 b, .int .i64 k, .int .i64 n] 128)) wx → wx.cell? ⟨g, q, none⟩ = some (.int .i64 (S.reg q)) := fun wx h => by
        rw [(box_below h).cell (p := ⟨g, q, none⟩) hlg]; exact hreg
      go_wp2
      refine wp_region_noPanic ?_
      refine wp_region_held_drew (S := fun wx => Below (wr.heap.size + 1) (wr.alloc (.cells #[.int .u8 op, .int .i64 q, .int .i64 b, .int .i64 k, .int .i64 n] 128)) wx) (by kernel_rfl) ((Below.refl _ _).drew) (fun hHeld => ?_)
      refine wpAnyH_take (i := 0) (v := ?_) (at_list rfl) (by kernel_rfl) (by kernel_rfl) (by kernel_rfl) (fun _ _ _ h => h) (Or.inl ⟨by rfl, ?_⟩) (by assumption) ?_
      rotate_left
      · intro w hSw; (try dsimp only at hSw); first | (go_simp; done) | (go_simp; with_reducible rfl)
      try simp only [Act.put]
      try simp only [List.setIfInBounds_toArray]
      try simp only [List.set_cons_succ]
      try simp only [List.set_cons_zero]
      refine wpAnyH_take (i := 1) (v := ?_) (at_list rfl) (by kernel_rfl) (by kernel_rfl) (by kernel_rfl) (fun _ _ _ h => h) (Or.inl ⟨by rfl, ?_⟩) (by assumption) ?_
      rotate_left
      · intro w hSw; (try dsimp only at hSw); first | (go_simp; done) | (go_simp; with_reducible rfl)
      try simp only [Act.put]
      try simp only [List.setIfInBounds_toArray]
      try simp only [List.set_cons_succ]
      try simp only [List.set_cons_zero]
      refine wpAnyH_take (i := 2) (v := ?_) (at_list rfl) (by kernel_rfl) (by kernel_rfl) (by kernel_rfl) (fun _ _ _ h => h) (Or.inl ⟨by rfl, ?_⟩) (by assumption) ?_
      rotate_left
      · intro w hSw; (try dsimp only at hSw); first | (go_simp; done) | (go_simp; with_reducible rfl)
      try simp only [Act.put]
      try simp only [List.setIfInBounds_toArray]
      try simp only [List.set_cons_succ]
      try simp only [List.set_cons_zero]
      refine wpAnyH_take (i := 3) (v := ?_) (at_list rfl) (by kernel_rfl) (by kernel_rfl) (by kernel_rfl) (fun _ _ _ h => h) (Or.inl ⟨by rfl, ?_⟩) (by assumption) ?_
      rotate_left
      · intro w hSw; (try dsimp only at hSw); first | (go_simp; done) | (go_simp; with_reducible rfl)
      try simp only [Act.put]
      try simp only [List.setIfInBounds_toArray]
      try simp only [List.set_cons_succ]
      try simp only [List.set_cons_zero]
      refine wpAnyH_take (i := 4) (v := ?_) (at_list rfl) (by kernel_rfl) (by kernel_rfl) (by kernel_rfl) (fun _ _ _ h => h) (Or.inl ⟨by rfl, ?_⟩) (by assumption) ?_
      rotate_left
      · intro w hSw; (try dsimp only at hSw); first | (go_simp; done) | (go_simp; with_reducible rfl)
      try simp only [Act.put]
      try simp only [List.setIfInBounds_toArray]
      try simp only [List.set_cons_succ]
      try simp only [List.set_cons_zero]
      refine wpAnyH_take (i := 5) (v := ?_) (at_list rfl) (by kernel_rfl) (by kernel_rfl) (by kernel_rfl) (fun _ _ _ h => h) (Or.inl ⟨by rfl, ?_⟩) (by assumption) ?_
      rotate_left
      · intro w hSw; (try dsimp only at hSw); first | (go_simp; done) | (go_simp; with_reducible rfl)
      try simp only [Act.put]
      try simp only [List.setIfInBounds_toArray]
      try simp only [List.set_cons_succ]
      try simp only [List.set_cons_zero]
      refine wpAnyH_take (i := 6) (v := ?_) (at_list rfl) (by kernel_rfl) (by kernel_rfl) (by kernel_rfl) (fun _ _ _ h => h) (Or.inl ⟨by rfl, ?_⟩) (by assumption) ?_
      rotate_left
      · intro w hSw; (try dsimp only at hSw); first | (go_simp; done) | (go_simp; with_reducible rfl)
      try simp only [Act.put]
      try simp only [List.setIfInBounds_toArray]
      try simp only [List.set_cons_succ]
      try simp only [List.set_cons_zero]
      refine wpAnyH_take (i := 7) (v := ?_) (at_list rfl) (by kernel_rfl) (by kernel_rfl) (by kernel_rfl) (fun _ _ _ h => h) (Or.inl ⟨by rfl, ?_⟩) (by assumption) ?_
      rotate_left
      · intro w hSw; (try dsimp only at hSw); first | (go_simp; done) | (go_simp; with_reducible rfl)
      try simp only [Act.put]
      try simp only [List.setIfInBounds_toArray]
      try simp only [List.set_cons_succ]
      try simp only [List.set_cons_zero]
      refine wpAnyH_done (by kernel_rfl) ?_ _
      refine NoPanic.normal ?_
      have HBOX := hide (show (wr.alloc (.cells #[.int .u8 op, .int .i64 q, .int .i64 b, .int .i64 k, .int .i64 n] 128)).drew.heap[wr.heap.size]? = some (.cells #[.int .u8 op, .int .i64 q, .int .i64 b, .int .i64 k, .int .i64 n] 128 (0, 0)) from blk_new _ _)
      have HM7 := hide ((unhide HMA).bel (box_below hHeld))
      have HB7 := hide ((unhide HBW).trans ((box_below hHeld).mono (by omega)))
      have hsb : g ≠ wr.heap.size := by omega
      have hgs : g < (wr.alloc (.cells #[.int .u8 op, .int .i64 q, .int .i64 b, .int .i64 k, .int .i64 n] 128)).drew.heap.size := by have := (box_below hHeld).size; omega
      clear hrg hreg c0 c1 c2 c3 c4 hbx hHeld HMA HBW
      generalize (wr.alloc (.cells #[.int .u8 op, .int .i64 q, .int .i64 b, .int .i64 k, .int .i64 n] 128)).drew = w7 at *
      generalize wr.heap.size = sb at *
      have hk0 := (unhide HBY).k0
      have hb0 := (unhide HBY).b0
      have hn0 := (unhide HBY).n0
      simp only at hk0 hb0 hn0
      have hd := fun (wx : World) (h : wx.heap[sb]? = some (.cells #[.int .u8 op, .int .i64 q, .int .i64 b, .int .i64 k, .int .i64 n] 128 (0, 0))) => blk_cell h
      have hd7 := hd w7 (unhide HBOX)
      rcases hop with rfl | rfl | rfl | rfl | rfl | rfl
      · obtain ⟨n1, b1, h8, h32⟩ := known_move (unhide HKN) (.inl rfl)
        simp only at n1 b1 h8 h32
        have HR := hide (show runL (L.drop (a + 1)) { S with reg := upd S.reg q (putTo (low (S.reg q)) S.N k.toNat b.toNat n.toNat : Nat) } = runL L s by have := unhide HRUN; rw [act_get] at this; simpa using this)
        have hfr := fun (wx : World) (h : MachAt wx g S) => h.free q
        have hrc := fun (wx : World) (h : MachAt wx g S) => h.reg hq
        go_wp2
        clear hd7
        refine wp_region_noPanic ?_
        refine wp_region_held_drew (S := fun wx => wx.heap[sb]? = some (.cells #[.int .u8 71, .int .i64 q, .int .i64 b, .int .i64 k, .int .i64 n] 128 (0, 0)) ∧ wx.cell? ⟨g, 16, none⟩ = some (.int .u64 S.N)) (by kernel_rfl) ⟨unhide HBOX, (unhide HM7).bits⟩ (fun hHeld => ?_)
        have hd0 : ∀ wx : World, (wx.heap[sb]? = some (.cells #[.int .u8 71, .int .i64 q, .int .i64 b, .int .i64 k, .int .i64 n] 128 (0, 0)) ∧ wx.cell? ⟨g, 16, none⟩ = some (.int .u64 S.N)) → ∀ j, wx.cell? ⟨sb, j, none⟩ = _ := fun wx h => hd wx h.1
        have hd1 : ∀ wx : World, (wx.heap[sb]? = some (.cells #[.int .u8 71, .int .i64 q, .int .i64 b, .int .i64 k, .int .i64 n] 128 (0, 0)) ∧ wx.cell? ⟨g, 16, none⟩ = some (.int .u64 S.N)) → wx.cell? ⟨g, 16, none⟩ = some (.int .u64 S.N) := fun wx h => h.2
        refine wpAnyH_take (i := 0) (v := ?_) (at_list rfl) (by kernel_rfl) (by kernel_rfl) (by kernel_rfl) (fun _ _ _ h => h) (Or.inl ⟨by rfl, ?_⟩) (by assumption) ?_
        rotate_left
        · intro w hSw; (try dsimp only at hSw); first | (go_simp; done) | (go_simp; with_reducible rfl)
        try simp only [Act.put]
        try simp only [List.setIfInBounds_toArray]
        try simp only [List.set_cons_succ]
        try simp only [List.set_cons_zero]
        refine wpAnyH_take (i := 1) (v := ?_) (at_list rfl) (by kernel_rfl) (by kernel_rfl) (by kernel_rfl) (fun _ _ _ h => h) (Or.inl ⟨by rfl, ?_⟩) (by assumption) ?_
        rotate_left
        · intro w hSw; (try dsimp only at hSw); first | (go_simp; done) | (go_simp; with_reducible rfl)
        try simp only [Act.put]
        try simp only [List.setIfInBounds_toArray]
        try simp only [List.set_cons_succ]
        try simp only [List.set_cons_zero]
        refine wpAnyH_take (i := 2) (v := ?_) (at_list rfl) (by kernel_rfl) (by kernel_rfl) (by kernel_rfl) (fun _ _ _ h => h) (Or.inl ⟨by rfl, ?_⟩) (by assumption) ?_
        rotate_left
        · intro w hSw; (try dsimp only at hSw); first | (go_simp; done) | (go_simp; with_reducible rfl)
        try simp only [Act.put]
        try simp only [List.setIfInBounds_toArray]
        try simp only [List.set_cons_succ]
        try simp only [List.set_cons_zero]
        refine wpAnyH_take (i := 3) (v := ?_) (at_list rfl) (by kernel_rfl) (by kernel_rfl) (by kernel_rfl) (fun _ _ _ h => h) (Or.inl ⟨by rfl, ?_⟩) (by assumption) ?_
        rotate_left
        · intro w hSw; (try dsimp only at hSw); first | (go_simp; done) | (go_simp; with_reducible rfl)
        try simp only [Act.put]
        try simp only [List.setIfInBounds_toArray]
        try simp only [List.set_cons_succ]
        try simp only [List.set_cons_zero]
        refine wpAnyH_take (i := 4) (v := ?_) (at_list rfl) (by kernel_rfl) (by kernel_rfl) (by kernel_rfl) (fun _ _ _ h => h) (Or.inl ⟨by rfl, ?_⟩) (by assumption) ?_
        rotate_left
        · intro w hSw; (try dsimp only at hSw); first | (go_simp; done) | (go_simp; with_reducible rfl)
        try simp only [Act.put]
        try simp only [List.setIfInBounds_toArray]
        try simp only [List.set_cons_succ]
        try simp only [List.set_cons_zero]
        refine wpAnyH_take (i := 5) (v := ?_) (at_list rfl) (by kernel_rfl) (by kernel_rfl) (by kernel_rfl) (fun _ _ _ h => h) (Or.inl ⟨by rfl, ?_⟩) (by assumption) ?_
        rotate_left
        · intro w hSw; (try dsimp only at hSw); first | (go_simp; done) | (go_simp; with_reducible rfl)
        try simp only [Act.put]
        try simp only [List.setIfInBounds_toArray]
        try simp only [List.set_cons_succ]
        try simp only [List.set_cons_zero]
        refine wpAnyH_take (i := 6) (v := ?_) (at_list rfl) (by kernel_rfl) (by kernel_rfl) (by kernel_rfl) (fun _ _ _ h => h) (Or.inl ⟨by rfl, ?_⟩) (by assumption) ?_
        rotate_left
        · intro w hSw; (try dsimp only at hSw); first | (go_simp; done) | (go_simp; with_reducible rfl)
        try simp only [Act.put]
        try simp only [List.setIfInBounds_toArray]
        try simp only [List.set_cons_succ]
        try simp only [List.set_cons_zero]
        refine wpAnyH_take (i := 7) (v := ?_) (at_list rfl) (by kernel_rfl) (by kernel_rfl) (by kernel_rfl) (fun _ _ _ h => h) (Or.inl ⟨by rfl, ?_⟩) (by assumption) ?_
        rotate_left
        · intro w hSw; (try dsimp only at hSw); first | (go_simp; done) | (go_simp; with_reducible rfl)
        try simp only [Act.put]
        try simp only [List.setIfInBounds_toArray]
        try simp only [List.set_cons_succ]
        try simp only [List.set_cons_zero]
        refine wpAnyH_take (i := 8) (v := ?_) (at_list rfl) (by kernel_rfl) (by kernel_rfl) (by kernel_rfl) (fun _ _ _ h => h) (Or.inl ⟨by rfl, ?_⟩) (by assumption) ?_
        rotate_left
        · intro w hSw; (try dsimp only at hSw); first | (go_simp; done) | (go_simp; with_reducible rfl)
        try simp only [Act.put]
        try simp only [List.setIfInBounds_toArray]
        try simp only [List.set_cons_succ]
        try simp only [List.set_cons_zero]
        refine wpAnyH_take (i := 10) (v := ?_) (at_list rfl) (by kernel_rfl) (by kernel_rfl) (by kernel_rfl) (fun _ _ _ h => h) (Or.inl ⟨by rfl, ?_⟩) (by assumption) ?_
        rotate_left
        · intro w hSw; (try dsimp only at hSw); first | (go_simp; done) | (go_simp; with_reducible rfl)
        try simp only [Act.put]
        try simp only [List.setIfInBounds_toArray]
        try simp only [List.set_cons_succ]
        try simp only [List.set_cons_zero]
        refine wpAnyH_take (i := 11) (v := ?_) (at_list rfl) (by kernel_rfl) (by kernel_rfl) (by kernel_rfl) (fun _ _ _ h => h) (Or.inl ⟨by rfl, ?_⟩) (by assumption) ?_
        rotate_left
        · intro w hSw; (try dsimp only at hSw); first | (go_simp; done) | (go_simp; with_reducible rfl)
        try simp only [Act.put]
        try simp only [List.setIfInBounds_toArray]
        try simp only [List.set_cons_succ]
        try simp only [List.set_cons_zero]
        refine wpAnyH_ready (rs := [9]) (by kernel_rfl) (by simp) ?_
        refine AllReadyH.cons (at_list rfl) (fun K hK => ?_) AllReadyH.nil
        go_simp
        refine (getBits_any S.N (S.reg q) 71 q b k n _ (unhide HSN) hb0 b1 n1 hk0 h32).mono ?_; rintro e w8 ⟨rfl, hb80⟩; have hb8 : Below w7.heap.size w7 w8 := (Below.refl w7.heap.size w7).drew.trans hb80; have HM8 := hide ((unhide HM7).bel hb8); have hS8 := And.intro (blk_below (unhide HBOX) hb8) (unhide HM8).bits; have HB8 := hide ((unhide HB7).trans (hb8.mono (Nat.le_of_lt hgs))); have hfr8 := hfr w8 (unhide HM8); have hrc8 := hrc w8 (unhide HM8); dsimp only
        refine hK.out _ _ (hS8) (fun hHeld => ?_)
        clear hK K
        try simp only [Act.put]
        try simp only [List.setIfInBounds_toArray]
        try simp only [List.set_cons_succ]
        try simp only [List.set_cons_zero]
        refine wpAnyH_take (i := 12) (v := ?_) (at_list rfl) (by kernel_rfl) (by kernel_rfl) (by kernel_rfl) (fun _ _ _ h => h) (Or.inl ⟨by rfl, ?_⟩) (by assumption) ?_
        rotate_left
        · intro w hSw; (try dsimp only at hSw); first | (go_simp; done) | (go_simp; with_reducible rfl)
        try simp only [Act.put]
        try simp only [List.setIfInBounds_toArray]
        try simp only [List.set_cons_succ]
        try simp only [List.set_cons_zero]
        have hS9 := And.intro (blk_set_other (j := q) (.int .i64 (putTo (low (S.reg q)) S.N k.toNat b.toNat n.toNat : Nat)) hHeld.1 hsb.symm) ((unhide HM8).setReg hq (putTo (low (S.reg q)) S.N k.toNat b.toNat n.toNat : Nat)).bits
        refine wpAnyH_ready (rs := [13]) (by kernel_rfl) (by simp) ?_
        refine AllReadyH.cons (at_list rfl) (fun K hK => ?_) AllReadyH.nil
        go_simp
        refine hK.out _ _ (hS9) (fun hHeld => ?_)
        clear hK K
        try simp only [Act.put]
        try simp only [List.setIfInBounds_toArray]
        try simp only [List.set_cons_succ]
        try simp only [List.set_cons_zero]
        refine wpAnyH_done (by kernel_rfl) ?_ _
        refine NoPanic.normal ?_
        clear hd0 hd1 hd hfr hrc
        go_wp2
        go_roundw
        case rel => exact ⟨a + 1, { S with reg := upd S.reg q (putTo (low (S.reg q)) S.N k.toNat b.toNat n.toNat : Nat) }, by go_num, by omega, (unhide HM8).setReg hq _, unhide HSN, (unhide HB8).setCell (Nat.le_refl _) _, unhide HR⟩
        case measure => simp [intOf]; omega
      · obtain ⟨n1, b1, h8, h32⟩ := known_move (unhide HKN) (.inr rfl)
        simp only at n1 b1 h8 h32
        have HR := hide (show runL (L.drop (a + 1)) { S with N := putTo S.N (low (S.reg q)) b.toNat k.toNat n.toNat } = runL L s by have := unhide HRUN; rw [act_put] at this; simpa using this)
        have HPN := hide (show putTo S.N (low (S.reg q)) b.toNat k.toNat n.toNat < 18446744073709551616 from putTo_lt (m := 64) _ _ _ _ (unhide HSN) (by omega))
        go_wp2
        clear hd7
        refine wp_region_noPanic ?_
        refine wp_region_held_drew (S := fun wx => wx.heap[sb]? = some (.cells #[.int .u8 80, .int .i64 q, .int .i64 b, .int .i64 k, .int .i64 n] 128 (0, 0))) (by kernel_rfl) (unhide HBOX) (fun hHeld => ?_)
        have hn7 : w7.drew.cell? ⟨g, 16, none⟩ = some (.int .u64 S.N) := (unhide HM7).bits
        refine wpAnyH_take (i := 0) (v := ?_) (at_list rfl) (by kernel_rfl) (by kernel_rfl) (by kernel_rfl) (fun _ _ _ h => h) (Or.inl ⟨by rfl, ?_⟩) (by assumption) ?_
        rotate_left
        · intro w hSw; (try dsimp only at hSw); first | (go_simp; done) | (go_simp; with_reducible rfl)
        try simp only [Act.put]
        try simp only [List.setIfInBounds_toArray]
        try simp only [List.set_cons_succ]
        try simp only [List.set_cons_zero]
        refine wpAnyH_take (i := 1) (v := ?_) (at_list rfl) (by kernel_rfl) (by kernel_rfl) (by kernel_rfl) (fun _ _ _ h => h) (Or.inl ⟨by rfl, ?_⟩) (by assumption) ?_
        rotate_left
        · intro w hSw; (try dsimp only at hSw); first | (go_simp; done) | (go_simp; with_reducible rfl)
        try simp only [Act.put]
        try simp only [List.setIfInBounds_toArray]
        try simp only [List.set_cons_succ]
        try simp only [List.set_cons_zero]
        refine wpAnyH_take (i := 2) (v := ?_) (at_list rfl) (by kernel_rfl) (by kernel_rfl) (by kernel_rfl) (fun _ _ _ h => h) (Or.inl ⟨by rfl, ?_⟩) (by assumption) ?_
        rotate_left
        · intro w hSw; (try dsimp only at hSw); first | (go_simp; done) | (go_simp; with_reducible rfl)
        try simp only [Act.put]
        try simp only [List.setIfInBounds_toArray]
        try simp only [List.set_cons_succ]
        try simp only [List.set_cons_zero]
        refine wpAnyH_take (i := 3) (v := ?_) (at_list rfl) (by kernel_rfl) (by kernel_rfl) (by kernel_rfl) (fun _ _ _ h => h) (Or.inl ⟨by rfl, ?_⟩) (by assumption) ?_
        rotate_left
        · intro w hSw; (try dsimp only at hSw); first | (go_simp; done) | (go_simp; with_reducible rfl)
        try simp only [Act.put]
        try simp only [List.setIfInBounds_toArray]
        try simp only [List.set_cons_succ]
        try simp only [List.set_cons_zero]
        refine wpAnyH_take (i := 5) (v := ?_) (at_list rfl) (by kernel_rfl) (by kernel_rfl) (by kernel_rfl) (fun _ _ _ h => h) (Or.inl ⟨by rfl, ?_⟩) (by assumption) ?_
        rotate_left
        · intro w hSw; (try dsimp only at hSw); first | (go_simp; done) | (go_simp; with_reducible rfl)
        try simp only [Act.put]
        try simp only [List.setIfInBounds_toArray]
        try simp only [List.set_cons_succ]
        try simp only [List.set_cons_zero]
        refine wpAnyH_take (i := 6) (v := ?_) (at_list rfl) (by kernel_rfl) (by kernel_rfl) (by kernel_rfl) (fun _ _ _ h => h) (Or.inl ⟨by rfl, ?_⟩) (by assumption) ?_
        rotate_left
        · intro w hSw; (try dsimp only at hSw); first | (go_simp; done) | (go_simp; with_reducible rfl)
        try simp only [Act.put]
        try simp only [List.setIfInBounds_toArray]
        try simp only [List.set_cons_succ]
        try simp only [List.set_cons_zero]
        refine wpAnyH_ready (rs := [4]) (by kernel_rfl) (by simp) ?_
        refine AllReadyH.cons (at_list rfl) (fun K hK => ?_) AllReadyH.nil
        go_simp
        refine hK.out _ _ (hHeld) (fun hHeld => ?_)
        clear hK K
        try simp only [Act.put]
        try simp only [List.setIfInBounds_toArray]
        try simp only [List.set_cons_succ]
        try simp only [List.set_cons_zero]
        refine wpAnyH_ready (rs := [7]) (by kernel_rfl) (by simp) ?_
        refine AllReadyH.cons (at_list rfl) (fun K hK => ?_) AllReadyH.nil
        go_simp
        refine (putBits_any S.N (S.reg q) 80 q b k n _ (unhide HSN) hb0 b1 n1 h8 hk0 h32).mono ?_; rintro e w8 ⟨rfl, hb80⟩; have hb8 : Below w7.heap.size w7 w8 := (Below.refl w7.heap.size w7).drew.trans hb80; have HM8 := hide ((unhide HM7).bel hb8); have hS8 := blk_below (unhide HBOX) hb8; have HB8 := hide ((unhide HB7).trans (hb8.mono (Nat.le_of_lt hgs))); have hfr8 := (unhide HM8).free 16; have hrc8 := (unhide HM8).bits; dsimp only
        refine hK.out _ _ (hS8) (fun hHeld => ?_)
        clear hK K
        try simp only [Act.put]
        try simp only [List.setIfInBounds_toArray]
        try simp only [List.set_cons_succ]
        try simp only [List.set_cons_zero]
        refine wpAnyH_take (i := 8) (v := ?_) (at_list rfl) (by kernel_rfl) (by kernel_rfl) (by kernel_rfl) (fun _ _ _ h => h) (Or.inl ⟨by rfl, ?_⟩) (by assumption) ?_
        rotate_left
        · intro w hSw; (try dsimp only at hSw); first | (go_simp; done) | (go_simp; with_reducible rfl)
        try simp only [Act.put]
        try simp only [List.setIfInBounds_toArray]
        try simp only [List.set_cons_succ]
        try simp only [List.set_cons_zero]
        refine wpAnyH_take (i := 9) (v := ?_) (at_list rfl) (by kernel_rfl) (by kernel_rfl) (by kernel_rfl) (fun _ _ _ h => h) (Or.inl ⟨by rfl, ?_⟩) (by assumption) ?_
        rotate_left
        · intro w hSw; (try dsimp only at hSw); first | (go_simp; done) | (go_simp; with_reducible rfl)
        try simp only [Act.put]
        try simp only [List.setIfInBounds_toArray]
        try simp only [List.set_cons_succ]
        try simp only [List.set_cons_zero]
        have hS9 := blk_set_other (j := 16) (.int .u64 (putTo S.N (low (S.reg q)) b.toNat k.toNat n.toNat : Nat)) hHeld hsb.symm
        refine wpAnyH_ready (rs := [10]) (by kernel_rfl) (by simp) ?_
        refine AllReadyH.cons (at_list rfl) (fun K hK => ?_) AllReadyH.nil
        go_simp
        refine hK.out _ _ (hS9) (fun hHeld => ?_)
        clear hK K
        try simp only [Act.put]
        try simp only [List.setIfInBounds_toArray]
        try simp only [List.set_cons_succ]
        try simp only [List.set_cons_zero]
        refine wpAnyH_done (by kernel_rfl) ?_ _
        refine NoPanic.normal ?_
        clear hd
        go_wp2
        go_roundw
        case rel => exact ⟨a + 1, { S with N := putTo S.N (low (S.reg q)) b.toNat k.toNat n.toNat }, by go_num, by omega, (unhide HM8).setBits _, unhide HPN, (unhide HB8).setCell (Nat.le_refl _) _, unhide HR⟩
        case measure => simp [intOf]; omega
      · obtain ⟨n1, h32⟩ := known_x (unhide HKN) rfl
        simp only at n1 h32
        have HR := hide (show runL (L.drop (a + 1)) { S with reg := upd S.reg q (extV (S.reg q) n) } = runL L s by have := unhide HRUN; rw [act_x] at this; simpa using this)
        go_wp2
        clear hd7
        refine wp_region_noPanic ?_
        refine wp_region_held_drew (S := fun wx => wx.heap[sb]? = some (.cells #[.int .u8 88, .int .i64 q, .int .i64 b, .int .i64 k, .int .i64 n] 128 (0, 0))) (by kernel_rfl) (unhide HBOX) (fun hHeld => ?_)
        have hb8 : Below w7.heap.size w7 w7.drew := (Below.refl w7.heap.size w7).drew
        have HM8 := hide ((unhide HM7).bel hb8)
        have HB8 := hide ((unhide HB7).trans (hb8.mono (Nat.le_of_lt hgs)))
        have hfr8 := (unhide HM8).free q
        have hrc8 := (unhide HM8).reg hq
        clear hb8
        refine wpAnyH_take (i := 0) (v := ?_) (at_list rfl) (by kernel_rfl) (by kernel_rfl) (by kernel_rfl) (fun _ _ _ h => h) (Or.inl ⟨by rfl, ?_⟩) (by assumption) ?_
        rotate_left
        · intro w hSw; (try dsimp only at hSw); first | (go_simp; done) | (go_simp; with_reducible rfl)
        try simp only [Act.put]
        try simp only [List.setIfInBounds_toArray]
        try simp only [List.set_cons_succ]
        try simp only [List.set_cons_zero]
        refine wpAnyH_take (i := 1) (v := ?_) (at_list rfl) (by kernel_rfl) (by kernel_rfl) (by kernel_rfl) (fun _ _ _ h => h) (Or.inl ⟨by rfl, ?_⟩) (by assumption) ?_
        rotate_left
        · intro w hSw; (try dsimp only at hSw); first | (go_simp; done) | (go_simp; with_reducible rfl)
        try simp only [Act.put]
        try simp only [List.setIfInBounds_toArray]
        try simp only [List.set_cons_succ]
        try simp only [List.set_cons_zero]
        refine wpAnyH_take (i := 2) (v := ?_) (at_list rfl) (by kernel_rfl) (by kernel_rfl) (by kernel_rfl) (fun _ _ _ h => h) (Or.inl ⟨by rfl, ?_⟩) (by assumption) ?_
        rotate_left
        · intro w hSw; (try dsimp only at hSw); first | (go_simp; done) | (go_simp; with_reducible rfl)
        try simp only [Act.put]
        try simp only [List.setIfInBounds_toArray]
        try simp only [List.set_cons_succ]
        try simp only [List.set_cons_zero]
        refine wpAnyH_take (i := 3) (v := ?_) (at_list rfl) (by kernel_rfl) (by kernel_rfl) (by kernel_rfl) (fun _ _ _ h => h) (Or.inl ⟨by rfl, ?_⟩) (by assumption) ?_
        rotate_left
        · intro w hSw; (try dsimp only at hSw); first | (go_simp; done) | (go_simp; with_reducible rfl)
        try simp only [Act.put]
        try simp only [List.setIfInBounds_toArray]
        try simp only [List.set_cons_succ]
        try simp only [List.set_cons_zero]
        refine wpAnyH_take (i := 4) (v := ?_) (at_list rfl) (by kernel_rfl) (by kernel_rfl) (by kernel_rfl) (fun _ _ _ h => h) (Or.inl ⟨by rfl, ?_⟩) (by assumption) ?_
        rotate_left
        · intro w hSw; (try dsimp only at hSw); first | (go_simp; done) | (go_simp; with_reducible rfl)
        try simp only [Act.put]
        try simp only [List.setIfInBounds_toArray]
        try simp only [List.set_cons_succ]
        try simp only [List.set_cons_zero]
        refine wpAnyH_take (i := 5) (v := ?_) (at_list rfl) (by kernel_rfl) (by kernel_rfl) (by kernel_rfl) (fun _ _ _ h => h) (Or.inl ⟨by rfl, ?_⟩) (by assumption) ?_
        rotate_left
        · intro w hSw; (try dsimp only at hSw); first | (go_simp; done) | (go_simp; with_reducible rfl)
        try simp only [Act.put]
        try simp only [List.setIfInBounds_toArray]
        try simp only [List.set_cons_succ]
        try simp only [List.set_cons_zero]
        refine wpAnyH_take (i := 7) (v := ?_) (at_list rfl) (by kernel_rfl) (by kernel_rfl) (by kernel_rfl) (fun _ _ _ h => h) (Or.inl ⟨by rfl, ?_⟩) (by assumption) ?_
        rotate_left
        · intro w hSw; (try dsimp only at hSw); first | (go_simp; done) | (go_simp; with_reducible rfl)
        try simp only [Act.put]
        try simp only [List.setIfInBounds_toArray]
        try simp only [List.set_cons_succ]
        try simp only [List.set_cons_zero]
        refine wpAnyH_take (i := 8) (v := ?_) (at_list rfl) (by kernel_rfl) (by kernel_rfl) (by kernel_rfl) (fun _ _ _ h => h) (Or.inl ⟨by rfl, ?_⟩) (by assumption) ?_
        rotate_left
        · intro w hSw; (try dsimp only at hSw); first | (go_simp; done) | (go_simp; with_reducible rfl)
        try simp only [Act.put]
        try simp only [List.setIfInBounds_toArray]
        try simp only [List.set_cons_succ]
        try simp only [List.set_cons_zero]
        refine wpAnyH_ready (rs := [6]) (by kernel_rfl) (by simp) ?_
        refine AllReadyH.cons (at_list rfl) (fun K hK => ?_) AllReadyH.nil
        go_simp
        refine (extended_any (S.reg q) n _ n1 h32).mono ?_; rintro e w8 ⟨rfl, rfl⟩; dsimp only
        refine hK.out _ _ (hHeld) (fun hHeld => ?_)
        clear hK K
        try simp only [Act.put]
        try simp only [List.setIfInBounds_toArray]
        try simp only [List.set_cons_succ]
        try simp only [List.set_cons_zero]
        refine wpAnyH_take (i := 9) (v := ?_) (at_list rfl) (by kernel_rfl) (by kernel_rfl) (by kernel_rfl) (fun _ _ _ h => h) (Or.inl ⟨by rfl, ?_⟩) (by assumption) ?_
        rotate_left
        · intro w hSw; (try dsimp only at hSw); first | (go_simp; done) | (go_simp; with_reducible rfl)
        try simp only [Act.put]
        try simp only [List.setIfInBounds_toArray]
        try simp only [List.set_cons_succ]
        try simp only [List.set_cons_zero]
        have hS9 := blk_set_other (j := q) (.int .i64 (extV (S.reg q) n)) hHeld hsb.symm
        refine wpAnyH_ready (rs := [10]) (by kernel_rfl) (by simp) ?_
        refine AllReadyH.cons (at_list rfl) (fun K hK => ?_) AllReadyH.nil
        go_simp
        refine hK.out _ _ (hS9) (fun hHeld => ?_)
        clear hK K
        try simp only [Act.put]
        try simp only [List.setIfInBounds_toArray]
        try simp only [List.set_cons_succ]
        try simp only [List.set_cons_zero]
        refine wpAnyH_done (by kernel_rfl) ?_ _
        refine NoPanic.normal ?_
        clear hd
        go_wp2
        go_roundw
        case rel => exact ⟨a + 1, { S with reg := upd S.reg q (extV (S.reg q) n) }, by go_num, by omega, (unhide HM8).setReg hq _, unhide HSN, (unhide HB8).setCell (Nat.le_refl _) _, unhide HR⟩
        case measure => simp [intOf]; omega
      · obtain ⟨n1, h32, k1⟩ := known_range (unhide HKN) rfl
        simp only at n1 h32 k1
        have hact := act_range (r := (q : Int)) (b := b) (k := k) (n := n) S
        rw [Int.toNat_natCast] at hact
        have HFB := hide (show fitsB (if (k == 1) = true then 115 else 117) n (S.reg q) = fitsB (if k = 1 then 115 else 117) n (S.reg q) by simp)
        cases hfit : fitsB (if k = 1 then 115 else 117) n (S.reg q) with
        | true =>
          have HR := hide (show runL (L.drop (a + 1)) S = runL L s by have := unhide HRUN; rw [hact, hfit] at this; simpa using this)
          rw [hfit] at HFB
          clear hact hfit
          go_wp2_with fail
          refine (inRange_any (S.reg q) n _ _ n1 h32).mono ?_
          rintro e w8 ⟨rfl, rfl⟩
          rw [unhide HFB]
          go_wp2
          go_roundw
          case rel => exact ⟨a + 1, S, by go_num, by omega, unhide HM7, unhide HSN, unhide HB7, unhide HR⟩
          case measure => simp [intOf]; omega
        | false =>
          have HR := hide (show (S, (9 : Int), (q : Int)) = runL L s by have := unhide HRUN; rw [hact, hfit] at this; simpa using this)
          rw [hfit] at HFB
          clear hact hfit
          go_wp2_with fail
          refine (inRange_any (S.reg q) n _ _ n1 h32).mono ?_
          rintro e w8 ⟨rfl, rfl⟩
          rw [unhide HFB]
          go_wp2
          clear hd7
          refine wp_region_noPanic ?_
          refine wp_region_held_drew (S := fun wx => wx.heap[sb]? = some (.cells #[.int .u8 82, .int .i64 q, .int .i64 b, .int .i64 k, .int .i64 n] 128 (0, 0))) (by kernel_rfl) (unhide HBOX) (fun hHeld => ?_)
          have hb8 : Below w7.heap.size w7 w7.drew := (Below.refl w7.heap.size w7).drew
          have HM8 := hide ((unhide HM7).bel hb8)
          have HB8 := hide ((unhide HB7).trans (hb8.mono (Nat.le_of_lt hgs)))
          clear hb8
          refine wpAnyH_take (i := 0) (v := ?_) (at_list rfl) (by kernel_rfl) (by kernel_rfl) (by kernel_rfl) (fun _ _ _ h => h) (Or.inl ⟨by rfl, ?_⟩) (by assumption) ?_
          rotate_left
          · intro w hSw; (try dsimp only at hSw); first | (go_simp; done) | (go_simp; with_reducible rfl)
          try simp only [Act.put]
          try simp only [List.setIfInBounds_toArray]
          try simp only [List.set_cons_succ]
          try simp only [List.set_cons_zero]
          refine wpAnyH_take (i := 1) (v := ?_) (at_list rfl) (by kernel_rfl) (by kernel_rfl) (by kernel_rfl) (fun _ _ _ h => h) (Or.inl ⟨by rfl, ?_⟩) (by assumption) ?_
          rotate_left
          · intro w hSw; (try dsimp only at hSw); first | (go_simp; done) | (go_simp; with_reducible rfl)
          try simp only [Act.put]
          try simp only [List.setIfInBounds_toArray]
          try simp only [List.set_cons_succ]
          try simp only [List.set_cons_zero]
          refine wpAnyH_take (i := 2) (v := ?_) (at_list rfl) (by kernel_rfl) (by kernel_rfl) (by kernel_rfl) (fun _ _ _ h => h) (Or.inl ⟨by rfl, ?_⟩) (by assumption) ?_
          rotate_left
          · intro w hSw; (try dsimp only at hSw); first | (go_simp; done) | (go_simp; with_reducible rfl)
          try simp only [Act.put]
          try simp only [List.setIfInBounds_toArray]
          try simp only [List.set_cons_succ]
          try simp only [List.set_cons_zero]
          refine wpAnyH_take (i := 3) (v := ?_) (at_list rfl) (by kernel_rfl) (by kernel_rfl) (by kernel_rfl) (fun _ _ _ h => h) (Or.inl ⟨by rfl, ?_⟩) (by assumption) ?_
          rotate_left
          · intro w hSw; (try dsimp only at hSw); first | (go_simp; done) | (go_simp; with_reducible rfl)
          try simp only [Act.put]
          try simp only [List.setIfInBounds_toArray]
          try simp only [List.set_cons_succ]
          try simp only [List.set_cons_zero]
          refine wpAnyH_done (by kernel_rfl) ?_ _
          refine NoPanic.normal ?_
          clear hd
          go_wp2
          go_ret2
          exact ⟨by rw [← unhide HR]; rfl, by rw [← unhide HR]; exact unhide HM8, by rw [← unhide HR]; exact unhide HSN, unhide HB8⟩
      · obtain ⟨n1, hnl⟩ := known_jump (unhide HKN) rfl
        simp only at n1 hnl
        have hn255 := (unhide HBY).n1
        simp only at hn255
        have hact := act_jump (r := (q : Int)) (b := b) (k := k) (n := n) S
        rw [Int.toNat_natCast] at hact
        obtain ⟨m, rfl⟩ : ∃ m : Nat, n = m := ⟨n.toNat, by omega⟩
        by_cases hjb : S.reg q = b
        · have HR := hide (show runL (L.drop (a + 1)) S = runL L s by have := unhide HRUN; rw [hact, if_pos hjb] at this; simpa using this)
          have hne : (S.reg q != b) = false := by simp [hjb]
          clear hact hjb
          go_wp2
          go_roundw
          case rel => exact ⟨a + 1, S, by go_num, by omega, unhide HM7, unhide HSN, unhide HB7, unhide HR⟩
          case measure => simp [intOf]; omega
        · have HR := hide (show runL (L.drop (a + 1 + m)) S = runL L s by have := unhide HRUN; rw [hact, if_neg hjb] at this; simpa [List.drop_drop, Nat.add_comm, Nat.add_left_comm, Nat.add_assoc] using this)
          have hne : (S.reg q != b) = true := by simp [hjb]
          clear hact hjb
          go_wp2
          go_roundw
          case rel => exact ⟨a + 1 + m, S, by go_num, by omega, unhide HM7, unhide HSN, unhide HB7, unhide HR⟩
          case measure => simp [intOf]; omega
      · have HR := hide (show runL (L.drop (a + 1)) { S with mark := upd S.mark q true } = runL L s by have := unhide HRUN; rw [act_mark] at this; simpa using this)
        go_wp2
        clear hd7
        refine wp_region_noPanic ?_
        refine wp_region_held_drew (S := fun wx => wx.heap[sb]? = some (.cells #[.int .u8 65, .int .i64 q, .int .i64 b, .int .i64 k, .int .i64 n] 128 (0, 0))) (by kernel_rfl) (unhide HBOX) (fun hHeld => ?_)
        have hb8 : Below w7.heap.size w7 w7.drew := (Below.refl w7.heap.size w7).drew
        have HM8 := hide ((unhide HM7).bel hb8)
        have HB8 := hide ((unhide HB7).trans (hb8.mono (Nat.le_of_lt hgs)))
        have hfr8 := (unhide HM8).free (8 + q)
        have hrc8 := (unhide HM8).mark hq
        clear hb8
        refine wpAnyH_take (i := 0) (v := ?_) (at_list rfl) (by kernel_rfl) (by kernel_rfl) (by kernel_rfl) (fun _ _ _ h => h) (Or.inl ⟨by rfl, ?_⟩) (by assumption) ?_
        rotate_left
        · intro w hSw; (try dsimp only at hSw); first | (go_simp; done) | (go_simp; with_reducible rfl)
        try simp only [Act.put]
        try simp only [List.setIfInBounds_toArray]
        try simp only [List.set_cons_succ]
        try simp only [List.set_cons_zero]
        refine wpAnyH_take (i := 1) (v := ?_) (at_list rfl) (by kernel_rfl) (by kernel_rfl) (by kernel_rfl) (fun _ _ _ h => h) (Or.inl ⟨by rfl, ?_⟩) (by assumption) ?_
        rotate_left
        · intro w hSw; (try dsimp only at hSw); first | (go_simp; done) | (go_simp; with_reducible rfl)
        try simp only [Act.put]
        try simp only [List.setIfInBounds_toArray]
        try simp only [List.set_cons_succ]
        try simp only [List.set_cons_zero]
        refine wpAnyH_take (i := 2) (v := ?_) (at_list rfl) (by kernel_rfl) (by kernel_rfl) (by kernel_rfl) (fun _ _ _ h => h) (Or.inl ⟨by rfl, ?_⟩) (by assumption) ?_
        rotate_left
        · intro w hSw; (try dsimp only at hSw); first | (go_simp; done) | (go_simp; with_reducible rfl)
        try simp only [Act.put]
        try simp only [List.setIfInBounds_toArray]
        try simp only [List.set_cons_succ]
        try simp only [List.set_cons_zero]
        refine wpAnyH_take (i := 3) (v := ?_) (at_list rfl) (by kernel_rfl) (by kernel_rfl) (by kernel_rfl) (fun _ _ _ h => h) (Or.inl ⟨by rfl, ?_⟩) (by assumption) ?_
        rotate_left
        · intro w hSw; (try dsimp only at hSw); first | (go_simp; done) | (go_simp; with_reducible rfl)
        try simp only [Act.put]
        try simp only [List.setIfInBounds_toArray]
        try simp only [List.set_cons_succ]
        try simp only [List.set_cons_zero]
        refine wpAnyH_take (i := 4) (v := ?_) (at_list rfl) (by kernel_rfl) (by kernel_rfl) (by kernel_rfl) (fun _ _ _ h => h) (Or.inl ⟨by rfl, ?_⟩) (by assumption) ?_
        rotate_left
        · intro w hSw; (try dsimp only at hSw); first | (go_simp; done) | (go_simp; with_reducible rfl)
        try simp only [Act.put]
        try simp only [List.setIfInBounds_toArray]
        try simp only [List.set_cons_succ]
        try simp only [List.set_cons_zero]
        refine wpAnyH_take (i := 5) (v := ?_) (at_list rfl) (by kernel_rfl) (by kernel_rfl) (by kernel_rfl) (fun _ _ _ h => h) (Or.inl ⟨by rfl, ?_⟩) (by assumption) ?_
        rotate_left
        · intro w hSw; (try dsimp only at hSw); first | (go_simp; done) | (go_simp; with_reducible rfl)
        try simp only [Act.put]
        try simp only [List.setIfInBounds_toArray]
        try simp only [List.set_cons_succ]
        try simp only [List.set_cons_zero]
        have hS9 := blk_set_other (j := 8 + q) (.bool true) hHeld hsb.symm
        refine wpAnyH_ready (rs := [6]) (by kernel_rfl) (by simp) ?_
        refine AllReadyH.cons (at_list rfl) (fun K hK => ?_) AllReadyH.nil
        go_simp
        refine hK.out _ _ (hS9) (fun hHeld => ?_)
        clear hK K
        try simp only [Act.put]
        try simp only [List.setIfInBounds_toArray]
        try simp only [List.set_cons_succ]
        try simp only [List.set_cons_zero]
        refine wpAnyH_done (by kernel_rfl) ?_ _
        refine NoPanic.normal ?_
        clear hd
        go_wp2
        go_roundw
        case rel => exact ⟨a + 1, { S with mark := upd S.mark q true }, by go_num, by omega, (unhide HM8).setMark hq, unhide HSN, (unhide HB8).setCell (Nat.le_refl _) _, unhide HR⟩
        case measure => simp [intOf]; omega
    · have HR := hide (show (S, (0 : Int), (0 : Int)) = runL L s by rw [← unhide HRUN, List.drop_of_length_le (by omega), runL_nil])
      go_wp2
      go_ret2
      exact ⟨by rw [← unhide HR]; rfl, by rw [← unhide HR]; exact unhide HMA, by rw [← unhide HR]; exact unhide HSN, unhide HBW⟩

end Go.Proofs.Ytljodhcfimklkaa

namespace Go.Proofs.Ytljodhcfimklkaa
open Go.RowKit

/-- How many instructions a code has, a part of one counted. -/
def cntI (s : ByteArray) : Nat := (s.size + 4) / 5
def badB (s : ByteArray) (i : Nat) : Bool := decide (s.size < 5 * i + 5) || !knownB (insAt s i) ((cntI s : Int) - 1 - i)
def vIx (s : ByteArray) : Nat := firstIx (badB s) (cntI s)
/-- What the program's Verify answers. -/
def vE (s : ByteArray) : Int := if 480 < s.size then 1 else if vIx s < cntI s then 11 else 0
def vP (s : ByteArray) : Int := if 480 < s.size then 0 else if vIx s < cntI s then vIx s else 0
def codeTo (s : ByteArray) (k : Nat) : List Ins := (List.range k).map (insAt s)
def codeL (s : ByteArray) : List Ins := codeTo s (cntI s)
theorem codeTo_len (s : ByteArray) (k : Nat) : (codeTo s k).length = k := by simp [codeTo]
theorem codeTo_succ (s : ByteArray) (k : Nat) : codeTo s (k + 1) = codeTo s k ++ [insAt s k] := by simp [codeTo, List.range_succ]
theorem codeTo_get (s : ByteArray) (k i : Nat) (h : i < k) : (codeTo s k)[i]? = some (insAt s i) := by simp [codeTo, h]

theorem vE_zero {s : ByteArray} (h : vE s = 0) : s.size ≤ 480 ∧ (∀ i, i < cntI s → badB s i = false) := by
  unfold vE at h
  split at h
  · omega
  · split at h
    · omega
    · rename_i h1 h2
      refine ⟨by omega, fun i hi => ?_⟩
      have := firstIx_le (badB s) (cntI s)
      exact firstIx_no (badB s) (cntI s) i (by unfold vIx at h2; omega)
theorem code_fine {s : ByteArray} (h : vE s = 0) : Fine (codeL s) ∧ (codeL s).length ≤ 96 := by
  obtain ⟨h1, h2⟩ := vE_zero h
  rw [codeL]
  refine ⟨?_, by rw [codeTo_len]; unfold cntI; omega⟩
  intro i x hx
  rw [codeTo_len]
  by_cases hi : i < cntI s
  · rw [codeTo_get s _ i hi] at hx
    cases hx
    have := h2 i hi
    simp only [badB, Bool.or_eq_false_iff, Bool.not_eq_false'] at this
    exact ⟨insAt_byt s i, this.2⟩
  · rw [List.getElem?_eq_none (by rw [codeTo_len]; omega)] at hx; cases hx

theorem rdIns_at (s : ByteArray) (k : Nat) (w : World) (h : 5 * k + 5 ≤ s.size) :
    Calls Try.prog 78 #[.string (s.extract (5 * k) (5 * k + 5))] w fun e w' =>
      e = .returned (.agg #[.int .u8 (insAt s k).op, .int .i64 (insAt s k).r, .int .i64 (insAt s k).b, .int .i64 (insAt s k).k, .int .i64 (insAt s k).n]) ∧ Below w.heap.size w w' := by
  refine (readInstruction_any (s.extract (5 * k) (5 * k + 5)) w (by rw [ByteArray.size_extract]; omega)).mono ?_
  rintro e w' ⟨rfl, hb⟩
  refine ⟨?_, hb⟩
  rw [bt_extract s _ 5 0 (by omega) (by omega), bt_extract s _ 5 1 (by omega) (by omega), bt_extract s _ 5 2 (by omega) (by omega), bt_extract s _ 5 3 (by omega) (by omega), bt_extract s _ 5 4 (by omega) (by omega)]
  rfl

theorem Try.infoIns : (Try.prog.info? 128).map (fun i => (i.zero, i.size, i.bytes)) = some (some (.agg #[.int .u8 0, .int .i64 0, .int .i64 0, .int .i64 0, .int .i64 0]), 5, 40) := by kernel_rfl

set_option maxRecDepth 100000 in
set_option maxHeartbeats 2000000 in
theorem soundCode_any (s : ByteArray) (w : World) :
    Calls Try.prog 53 #[.string s] w fun e w' => (∃ a n cap, e = .returned (.tuple #[.slice a n cap, .int .i64 (vE s), .int .i64 (vP s)]) ∧ (vE s = 0 → InsAt w' (.slice a n cap) (codeL s))) ∧ Below w.heap.size w w' := by
  by_cases hlong : 480 < s.size
  · have HE := hide (show vE s = 1 ∧ vP s = 0 by simp [vE, vP, hlong])
    have hg : (480 : Int) < (s.size : Int) := by omega
    go_enter Try.func53, Try.ntmps53
    go_wp2
    go_ret3
    exact ⟨⟨none, 0, 0, by rw [(unhide HE).1, (unhide HE).2]; rfl, fun h => by rw [(unhide HE).1] at h; omega⟩, Below.refl _ _⟩
  obtain ⟨i0, hinf, hz0, hz1, hz2⟩ := info_parts Try.infoIns
  have HINF := hide hinf
  have HZ0 := hide hz0
  have HZ1 := hide hz1
  have HZ2 := hide hz2
  clear hinf hz0 hz1 hz2
  obtain ⟨c, HC⟩ : ∃ c, Hid (c = cntI s) := ⟨_, hide rfl⟩
  have hc1 : c ≤ 96 := by rw [unhide HC]; unfold cntI; omega
  have hc2 : ((s.size : Int) + 5 - 1) / 5 = (c : Int) := by rw [unhide HC]; unfold cntI; omega
  have hl2 : (s.size : Int) ≤ 480 := by omega
  go_enter Try.func53, Try.ntmps53
  go_wp2
  rw [hc2]
  clear hc2
  go_loopw [6, 7] (fun v i wr => ∃ k : Nat, k ≤ c ∧ i = .int .i64 k ∧ wr.ownsRow w.heap.size 128 5 v k ((codeTo s k).flatMap Ins.cells) ∧ (∀ j, j < k → badB s j = false) ∧ Below w.heap.size w wr) (fun _ i _ => c - (intOf i).toNat)
  case atStart => exact ⟨0, by omega, rfl, ⟨by simp [codeTo], .inr ⟨_, 0, #[], rfl, Nat.le_refl _, blk_new _ _, by simp, by simp [maxLen], by simp, by simp [codeTo]⟩⟩, by intro j hj; omega, (Below.refl _ _).alloc (Nat.le_refl _) _⟩
  case round =>
    obtain ⟨k, hk, rfl, hown, hno, hb⟩ := hrel
    obtain ⟨sa, cap, rfl⟩ := ownsRow_form hown
    have HOWN := hide hown
    have HNO := hide hno
    have HB := hide hb
    clear hown hno hb
    by_cases hlt : k < c
    · by_cases hsz : s.size < 5 * k + 5
      · have hbad : badB s k = true := by simp [badB, hsz]
        have hix : vIx s = k := firstIx_is (unhide HNO) (by rw [← unhide HC]; exact hlt) hbad
        have HE := hide (show vE s = 11 ∧ vP s = k by rw [vE, vP, if_neg hlong, if_neg hlong, hix, if_pos (by rw [← unhide HC]; exact hlt), if_pos (by rw [← unhide HC]; exact hlt)]; exact ⟨rfl, rfl⟩)
        clear hbad hix
        have hq : (s.size : Int) < 5 * (k : Int) + 5 := by omega
        go_wp2
        go_ret3
        exact ⟨⟨none, 0, 0, by rw [(unhide HE).1, (unhide HE).2]; rfl, fun h => by rw [(unhide HE).1] at h; omega⟩, unhide HB⟩
      · have hq : ¬ (s.size : Int) < 5 * (k : Int) + 5 := by omega
        have hq2 : 5 * (k : Int) + 5 ≤ (s.size : Int) := by omega
        obtain ⟨x, HX⟩ : ∃ x, Hid (x = insAt s k) := ⟨_, hide rfl⟩
        have hby := insAt_byt s k
        rw [← unhide HX] at hby
        have HBY := hide hby
        clear hby
        go_wp2_with fail
        refine (rdIns_at s k _ (by omega)).mono ?_
        rintro e w1 ⟨rfl, hb1⟩
        rw [← unhide HX]
        have HOWN1 := hide (ownsRow_bel (unhide HOWN) hb1)
        have HB1 := hide ((unhide HB).trans (hb1.mono (unhide HB).size))
        clear hb1 hq
        go_wp2_with fail
        refine (isInstruction_any x.op x.r x.b x.k x.n ((c : Int) - 1 - k) _ (unhide HBY)).mono ?_
        rintro e w2 ⟨rfl, hb2⟩
        have HB2 : Hid (Below (w1.heap.size + 1) (w1.alloc (.cells #[.int .u8 x.op, .int .i64 x.r, .int .i64 x.b, .int .i64 x.k, .int .i64 x.n] 128)) w2) := hide (hb2.mono (by simp))
        have hbw := box_cell (unhide HB2)
        have HB2' := hide ((unhide HB1).trans ((box_below (unhide HB2)).mono (unhide HB1).size))
        have HOWN2 := hide (ownsRow_bel (unhide HOWN1) (box_below (unhide HB2)))
        clear hb2
        cases hkn : knownB ⟨x.op, x.r, x.b, x.k, x.n⟩ ((c : Int) - 1 - k) with
        | false =>
          have hbad : badB s k = true := by
            rw [badB, ← unhide HX, ← unhide HC]
            have : knownB x ((c : Int) - 1 - k) = false := hkn
            simp [this]
          have hix : vIx s = k := firstIx_is (unhide HNO) (by rw [← unhide HC]; exact hlt) hbad
          have HE := hide (show vE s = 11 ∧ vP s = k by rw [vE, vP, if_neg hlong, if_neg hlong, hix, if_pos (by rw [← unhide HC]; exact hlt), if_pos (by rw [← unhide HC]; exact hlt)]; exact ⟨rfl, rfl⟩)
          clear hbad hix
          go_wp2
          go_ret3
          exact ⟨⟨none, 0, 0, by rw [(unhide HE).1, (unhide HE).2]; rfl, fun h => by rw [(unhide HE).1] at h; omega⟩, unhide HB2'⟩
        | true =>
          have hgood : badB s k = false := by
            rw [badB, ← unhide HX, ← unhide HC]
            have : knownB x ((c : Int) - 1 - k) = true := hkn
            simp [this]; omega
          have HGO := hide hgood
          clear hgood
          go_wp2_with (at_builtin; refine wpList_append_own _ rfl _ _ 91 rfl w.heap.size 128 i0 _ 5 40 Try.underlying91 (unhide HINF) (unhide HZ0) (unhide HZ1) (unhide HZ2) rfl (by decide) _ _ _ rfl ((unhide HOWN2).alloc _) ⟨w2.heap.size, 0, none⟩ 1 1 x.cells rfl rfl ?c1 ?c2 ?c3 ?c4 ?c5 ?_)
          case c1 => exact new_cells (blk_new _ _)
          case c2 => simp [Ins.cells, Value.oneCell']
          case c3 => unfold maxLen; omega
          case c4 => omega
          case c5 => have := (unhide HB2').size; simp; omega
          intro v3 w3 hown3 hgrow _
          obtain ⟨a3, cap3, rfl⟩ := ownsRow_form hown3
          have HB3 := hide (Below.grown ((unhide HB2').alloc (unhide HB2').size _) hgrow (by have := (unhide HB2').size; simp; omega) (fun k hk => ((unhide HOWN2).lt k hk).1))
          have HOWN3 := hide hown3
          clear hown3 hgrow hbw
          go_wp2
          go_roundw
          case rel =>
            refine ⟨k + 1, by omega, by go_num, ?_, fun j hj => ?_, unhide HB3⟩
            · have := unhide HOWN3
              rw [codeTo_succ, List.flatMap_append, ← unhide HX]
              simpa using this
            · by_cases e : j = k
              · subst e; exact unhide HGO
              · exact unhide HNO j (by omega)
          case measure => simp [intOf]; omega
    · have hkc : k = cntI s := by rw [← unhide HC]; omega
      have HE := hide (show vE s = 0 ∧ vP s = 0 by
        have : ¬ vIx s < cntI s := by rw [vIx, firstIx_none (fun j hj => unhide HNO j (by omega))]; omega
        rw [vE, vP, if_neg hlong, if_neg hlong, if_neg this, if_neg this]; exact ⟨rfl, rfl⟩)
      have HKC := hide hkc
      clear hkc
      go_wp2
      go_ret3
      refine ⟨⟨_, _, _, by rw [(unhide HE).1, (unhide HE).2]; rfl, fun _ => ?_⟩, unhide HB⟩
      have := ownsRow_base (unhide HOWN)
      rw [unhide HKC] at this ⊢
      rw [InsAt, codeL, codeTo_len]
      exact this

end Go.Proofs.Ytljodhcfimklkaa

namespace Go.Proofs.Ytljodhcfimklkaa
open Go.RowKit

theorem Verify_any (s : ByteArray) (w : World) :
    Calls Try.prog 28 #[.string s] w fun e w' => e = .returned (.tuple #[.int .i64 (vE s), .int .i64 (vP s)]) ∧ Below w.heap.size w w' := by
  go_enter Try.func28, Try.ntmps28
  go_wp2_with fail
  refine (soundCode_any s _).mono ?_
  rintro e w1 ⟨⟨a, n, cap, rfl, _⟩, hb⟩
  go_wp2
  go_ret2
  exact ⟨rfl, hb⟩

/-- The signs of the first k registers; the eight registers. -/
def signM (s : St) (j : Nat) : Int := if s.mark j then 43 else 45
def signsM (s : St) (k : Nat) : List Int := (List.range k).map (signM s)
theorem signsM_succ (s : St) (k : Nat) : signsM s (k + 1) = signsM s k ++ [signM s k] := by simp [signsM, List.range_succ]
theorem signsM_len (s : St) (k : Nat) : (signsM s k).length = k := by simp [signsM]
def regsM (s : St) (k : Nat) : List Int := (List.range k).map s.reg
theorem regsM_succ (s : St) (k : Nat) : regsM s (k + 1) = regsM s k ++ [s.reg k] := by simp [regsM, List.range_succ]
theorem regsM_len (s : St) (k : Nat) : (regsM s k).length = k := by simp [regsM]

set_option maxRecDepth 100000 in
set_option maxHeartbeats 2000000 in
theorem signs_any (g : Nat) (s : St) (w : World) (hm : MachAt w g s) :
    Calls Try.prog 60 #[.pointer (some ⟨g, 0, none⟩)] w fun e w' => e = .returned (.string (strOfNums (signsM s 8))) ∧ Below w.heap.size w w' := by
  obtain ⟨i0, hinf, hz0, hz1, hz2⟩ := info_parts Try.infoU8
  have HINF := hide hinf
  have HZ0 := hide hz0
  have HZ1 := hide hz1
  have HZ2 := hide hz2
  have HM := hide hm
  clear hinf hz0 hz1 hz2 hm
  go_enter Try.func60, Try.ntmps60
  go_wp2
  go_loopw [3, 4] (fun v i wr => ∃ k : Nat, k ≤ 8 ∧ i = .int .i64 k ∧ wr.ownsRow w.heap.size 5 1 v k ((signsM s k).map (Value.int .u8)) ∧ Below w.heap.size w wr) (fun _ i _ => 8 - (intOf i).toNat)
  case atStart => exact ⟨0, by omega, rfl, ⟨by simp [signsM], .inr ⟨_, 0, #[], rfl, Nat.le_refl _, blk_new _ _, by simp, by simp [maxLen], by simp, by simp [signsM]⟩⟩, (Below.refl _ _).alloc (Nat.le_refl _) _⟩
  case round =>
    obtain ⟨k, hk, rfl, hown, hb⟩ := hrel
    obtain ⟨sa, cap, rfl⟩ := ownsRow_form hown
    have HOWN := hide hown
    have HB := hide hb
    clear hown hb
    by_cases hlt : k < 8
    · have hmk := ((unhide HM).bel (unhide HB)).mark hlt
      have hi0 : (0 : Int) ≤ (k : Int) := by omega
      have hi1 : (k : Int) < 8 := by omega
      cases hon : s.mark k with
      | true =>
        rw [hon] at hmk
        have HSG := hide (show signM s k = 43 by simp [signM, hon])
        clear hon
        go_wp2_with (at_builtin; refine wpList_append_own _ rfl _ _ 38 rfl w.heap.size 5 i0 _ 1 1 Try.underlying38 (unhide HINF) (unhide HZ0) (unhide HZ1) (unhide HZ2) rfl (by decide) _ _ _ rfl ((unhide HOWN).alloc _) ⟨wr.heap.size, 0, none⟩ 1 1 [.int .u8 43] rfl rfl ?c1 ?c2 ?c3 ?c4 ?c5 ?_)
        case c1 => exact new_cells (blk_new _ _)
        case c2 => simp [Value.oneCell']
        case c3 => unfold maxLen; omega
        case c4 => omega
        case c5 => have := (unhide HB).size; simp; omega
        intro v3 w3 hown3 hgrow _
        obtain ⟨a3, cap3, rfl⟩ := ownsRow_form hown3
        have HB3 := hide (Below.grown ((unhide HB).alloc (unhide HB).size _) hgrow (by have := (unhide HB).size; simp; omega) (fun k hk => ((unhide HOWN).lt k hk).1))
        have HOWN3 := hide hown3
        clear hown3 hgrow hmk
        go_wp2
        go_roundw
        case rel =>
          refine ⟨k + 1, by omega, by go_num, ?_, unhide HB3⟩
          have := unhide HOWN3
          rw [signsM_succ, List.map_append, unhide HSG]
          exact this
        case measure => simp [intOf]; omega
      | false =>
        rw [hon] at hmk
        have HSG := hide (show signM s k = 45 by simp [signM, hon])
        clear hon
        go_wp2_with (at_builtin; refine wpList_append_own _ rfl _ _ 38 rfl w.heap.size 5 i0 _ 1 1 Try.underlying38 (unhide HINF) (unhide HZ0) (unhide HZ1) (unhide HZ2) rfl (by decide) _ _ _ rfl ((unhide HOWN).alloc _) ⟨wr.heap.size, 0, none⟩ 1 1 [.int .u8 45] rfl rfl ?c1 ?c2 ?c3 ?c4 ?c5 ?_)
        case c1 => exact new_cells (blk_new _ _)
        case c2 => simp [Value.oneCell']
        case c3 => unfold maxLen; omega
        case c4 => omega
        case c5 => have := (unhide HB).size; simp; omega
        intro v3 w3 hown3 hgrow _
        obtain ⟨a3, cap3, rfl⟩ := ownsRow_form hown3
        have HB3 := hide (Below.grown ((unhide HB).alloc (unhide HB).size _) hgrow (by have := (unhide HB).size; simp; omega) (fun k hk => ((unhide HOWN).lt k hk).1))
        have HOWN3 := hide hown3
        clear hown3 hgrow hmk
        go_wp2
        go_roundw
        case rel =>
          refine ⟨k + 1, by omega, by go_num, ?_, unhide HB3⟩
          have := unhide HOWN3
          rw [signsM_succ, List.map_append, unhide HSG]
          exact this
        case measure => simp [intOf]; omega
    · have hkn : k = 8 := by omega
      have hconv := conv_row (unhide HOWN)
      have HK := hide hkn
      clear hkn
      go_wp2
      go_ret
      exact ⟨by rw [← unhide HK]; rfl, unhide HB⟩

end Go.Proofs.Ytljodhcfimklkaa

namespace Go.Proofs.Ytljodhcfimklkaa
open Go.RowKit

def bitsM (N : Nat) : List Int := (List.range 64).map (fun q => (bitN N q : Int))
def marksM (s : St) : List Bool := (List.range 8).map s.mark
theorem bitsM_set (N q : Nat) (c : Bool) : ((bitsM N).map (Value.int .i64)).set q (.int .i64 (c.toNat : Int)) = (bitsM (setb N q c)).map (Value.int .i64) := by
  apply List.ext_getElem
  · simp [bitsM]
  · intro i h1 h2
    rw [List.getElem_set]
    simp [bitsM] at h2 ⊢
    have e : bitN (setb N q c) i = if i = q then c.toNat else bitN N i := by
      rw [← test_toNat, setb_test]
      split
      · rfl
      · rw [test_toNat]
    rw [e]
    by_cases hq : q = i
    · rw [if_pos hq, if_pos hq.symm]
    · rw [if_neg hq, if_neg (fun h => hq h.symm)]
theorem regsM_set (s : St) (q : Nat) (v : Int) : ((regsM s 8).map (Value.int .i64)).set q (.int .i64 v) = (regsM { s with reg := upd s.reg q v } 8).map (Value.int .i64) := by
  apply List.ext_getElem
  · simp [regsM]
  · intro i h1 h2
    rw [List.getElem_set]
    simp [regsM, upd] at h2 ⊢
    by_cases hq : q = i
    · rw [if_pos hq, if_pos hq.symm]
    · rw [if_neg hq, if_neg (fun h => hq h.symm)]
theorem marksM_set (s : St) (q : Nat) : ((marksM s).map Value.bool).set q (.bool true) = (marksM { s with mark := upd s.mark q true }).map Value.bool := by
  apply List.ext_getElem
  · simp [marksM]
  · intro i h1 h2
    rw [List.getElem_set]
    simp [marksM, upd] at h2 ⊢
    by_cases hq : q = i
    · subst hq; rfl
    · have : ¬ i = q := fun h => hq h.symm
      simp [hq, this]

/-- The document's machine: its block gm, its registers, bits and marks in the rows g1, g2, g3. -/
structure RM (w : World) (B gm g1 g2 g3 : Nat) (s : St) : Prop where
  box : w.heap[gm]? = some (.cells #[.slice (some ⟨g1, 0, none⟩) 8 8, .slice (some ⟨g2, 0, none⟩) 64 64, .slice (some ⟨g3, 0, none⟩) 8 8] 107 (0, 0))
  regs : w.ownsRow B 3 1 (.slice (some ⟨g1, 0, none⟩) 8 8) 8 ((regsM s 8).map (Value.int .i64))
  bits : w.ownsRow B 3 1 (.slice (some ⟨g2, 0, none⟩) 64 64) 64 ((bitsM s.N).map (Value.int .i64))
  marks : w.ownsRow B 4 1 (.slice (some ⟨g3, 0, none⟩) 8 8) 8 ((marksM s).map Value.bool)
  nm1 : gm ≠ g1
  nm2 : gm ≠ g2
  nm3 : gm ≠ g3
  n12 : g1 ≠ g2
  n13 : g1 ≠ g3
  n23 : g2 ≠ g3

theorem RM.reg {w : World} {B gm g1 g2 g3 : Nat} {s : St} (h : RM w B gm g1 g2 g3 s) {q : Nat} (hq : q < 8) : w.cell? ⟨g1, q, none⟩ = some (.int .i64 (s.reg q)) := by
  rw [h.regs.cellAt q (by omega)]; simp [regsM, hq]
theorem RM.bit {w : World} {B gm g1 g2 g3 : Nat} {s : St} (h : RM w B gm g1 g2 g3 s) {q : Nat} (hq : q < 64) : w.cell? ⟨g2, q, none⟩ = some (.int .i64 (bitN s.N q)) := by
  rw [h.bits.cellAt q (by omega)]; simp [bitsM, hq]
theorem RM.mark {w : World} {B gm g1 g2 g3 : Nat} {s : St} (h : RM w B gm g1 g2 g3 s) {q : Nat} (hq : q < 8) : w.cell? ⟨g3, q, none⟩ = some (.bool (s.mark q)) := by
  rw [h.marks.cellAt q (by omega)]; simp [marksM, hq]
theorem RM.bel {w w' : World} {B gm g1 g2 g3 : Nat} {s : St} (h : RM w B gm g1 g2 g3 s) (hb : Below w.heap.size w w') : RM w' B gm g1 g2 g3 s :=
  ⟨blk_below h.box hb, ownsRow_bel h.regs hb, ownsRow_bel h.bits hb, ownsRow_bel h.marks hb, h.nm1, h.nm2, h.nm3, h.n12, h.n13, h.n23⟩
theorem RM.l1 {w : World} {B gm g1 g2 g3 : Nat} {s : St} (h : RM w B gm g1 g2 g3 s) : B ≤ g1 ∧ g1 < w.heap.size := h.regs.lt g1 rfl
theorem RM.l2 {w : World} {B gm g1 g2 g3 : Nat} {s : St} (h : RM w B gm g1 g2 g3 s) : B ≤ g2 ∧ g2 < w.heap.size := h.bits.lt g2 rfl
theorem RM.l3 {w : World} {B gm g1 g2 g3 : Nat} {s : St} (h : RM w B gm g1 g2 g3 s) : B ≤ g3 ∧ g3 < w.heap.size := h.marks.lt g3 rfl
theorem RM.lm {w : World} {B gm g1 g2 g3 : Nat} {s : St} (h : RM w B gm g1 g2 g3 s) : gm < w.heap.size := blk_lt h.box
theorem RM.setReg {w : World} {B gm g1 g2 g3 : Nat} {s : St} (h : RM w B gm g1 g2 g3 s) (q : Nat) (v : Int) : RM (w.setCell ⟨g1, q, none⟩ (.int .i64 v)) B gm g1 g2 g3 { s with reg := upd s.reg q v } :=
  ⟨blk_set_other _ h.box h.nm1, by rw [← regsM_set]; exact (h.regs.stored q _).1, ownsRow_setCell_other h.bits (by simp only [Value.ownBlock]; exact fun e => h.n12 (Option.some.inj e).symm) _, ownsRow_setCell_other h.marks (by simp only [Value.ownBlock]; exact fun e => h.n13 (Option.some.inj e).symm) _, h.nm1, h.nm2, h.nm3, h.n12, h.n13, h.n23⟩
theorem RM.setBit {w : World} {B gm g1 g2 g3 : Nat} {s : St} (h : RM w B gm g1 g2 g3 s) (q : Nat) (c : Bool) : RM (w.setCell ⟨g2, q, none⟩ (.int .i64 (c.toNat : Int))) B gm g1 g2 g3 { s with N := setb s.N q c } :=
  ⟨blk_set_other _ h.box h.nm2, ownsRow_setCell_other h.regs (by simp only [Value.ownBlock]; exact fun e => h.n12 (Option.some.inj e)) _, by rw [← bitsM_set]; exact (h.bits.stored q _).1, ownsRow_setCell_other h.marks (by simp only [Value.ownBlock]; exact fun e => h.n23 (Option.some.inj e).symm) _, h.nm1, h.nm2, h.nm3, h.n12, h.n13, h.n23⟩
theorem RM.setMark {w : World} {B gm g1 g2 g3 : Nat} {s : St} (h : RM w B gm g1 g2 g3 s) (q : Nat) : RM (w.setCell ⟨g3, q, none⟩ (.bool true)) B gm g1 g2 g3 { s with mark := upd s.mark q true } :=
  ⟨blk_set_other _ h.box h.nm3, ownsRow_setCell_other h.regs (by simp only [Value.ownBlock]; exact fun e => h.n13 (Option.some.inj e)) _, ownsRow_setCell_other h.bits (by simp only [Value.ownBlock]; exact fun e => h.n23 (Option.some.inj e)) _, by rw [← marksM_set]; exact (h.marks.stored q _).1, h.nm1, h.nm2, h.nm3, h.n12, h.n13, h.n23⟩

theorem low_int (v : Int) : v % 4294967296 = (low v : Int) := by unfold low; omega
theorem one_and (x q : Nat) (hx : x < 4294967296) : bits BinOp.and IntKind.i64 ((x : Int) / 2 ^ q) 1 = (bitN x q : Int) := by
  have e : ((x : Int) / 2 ^ q) = ((x / 2 ^ q : Nat) : Int) := by simp
  have hle : x / 2 ^ q ≤ x := Nat.div_le_self _ _
  rw [e, bitN]
  generalize x / 2 ^ q = y at *
  rw [and_one_i64 _ (by omega) (by omega)]
  omega
theorem setb_clear {x q : Nat} (h : x.testBit q = false) : setb x q true = x + 2 ^ q := by
  have hp : 2 ^ (q + 1) = 2 * 2 ^ q := by rw [Nat.pow_succ, Nat.mul_comm]
  have hd : 2 ^ (q + 1) * (x / 2 ^ (q + 1)) + x % 2 ^ (q + 1) = x := Nat.div_add_mod x _
  have hy : x % 2 ^ (q + 1) < 2 ^ q := by
    have h1 : x % 2 ^ (q + 1) < 2 ^ (q + 1) := Nat.mod_lt _ (Nat.two_pow_pos _)
    have h2 : (x % 2 ^ (q + 1)).testBit q = false := by rw [Nat.testBit_mod_two_pow, h]; simp
    rcases Nat.lt_or_ge (x % 2 ^ (q + 1)) (2 ^ q) with h3 | h3
    · exact h3
    · have h4 : (x % 2 ^ (q + 1)).testBit q = true := by
        rw [Nat.testBit_eq_decide_div_mod_eq]
        have : x % 2 ^ (q + 1) / 2 ^ q = 1 := Nat.div_eq_of_lt_le (by omega) (by omega)
        rw [this]; rfl
      rw [h2] at h4; cases h4
  have hs := setb_add hy true
  rw [Bool.toNat_true, Nat.one_mul] at hs
  have hl : setb (x % 2 ^ (q + 1)) q true < 2 ^ (q + 1) := by rw [hs]; omega
  have e : x + 2 ^ q = 2 ^ (q + 1) * (x / 2 ^ (q + 1)) + setb (x % 2 ^ (q + 1)) q true := by rw [hs]; omega
  rw [e]
  apply Nat.eq_of_testBit_eq
  intro i
  rw [Nat.testBit_two_pow_mul_add _ hl, setb_test, setb_test]
  by_cases hi : i = q
  · rw [if_pos hi, if_pos hi, if_pos (by omega)]
  · rw [if_neg hi, if_neg hi]
    conv => lhs; rw [← hd]
    rw [Nat.testBit_two_pow_mul_add _ (Nat.mod_lt _ (Nat.two_pow_pos _))]
theorem setb_unset {x q : Nat} (h : x.testBit q = true) : setb x q false + 2 ^ q = x := by
  have h0 : (setb x q false).testBit q = false := by rw [setb_test, if_pos rfl]
  rw [← setb_clear h0]
  apply Nat.eq_of_testBit_eq
  intro i
  rw [setb_test, setb_test]
  by_cases hi : i = q
  · rw [if_pos hi, hi, h]
  · rw [if_neg hi, if_neg hi]
theorem setb_val (x q : Nat) (c : Bool) : (setb x q c : Int) = (x : Int) + ((c.toNat : Int) - (bitN x q : Int)) * ((2 ^ q : Nat) : Int) := by
  have hb := bitN_test x q
  cases ht : x.testBit q with
  | false =>
    rw [ht] at hb
    simp only [Bool.false_eq_true, if_false] at hb
    rw [hb]
    cases c with
    | false => rw [setb, if_pos ht]; simp
    | true => rw [setb_clear ht]; simp
  | true =>
    rw [ht] at hb
    simp only [if_true] at hb
    rw [hb]
    cases c with
    | true => rw [setb, if_pos ht]; simp
    | false =>
      have := setb_unset ht
      simp only [Bool.toNat_false]
      generalize 2 ^ q = y at *
      omega
theorem wrap_small (z : Int) (h0 : -9223372036854775808 ≤ z) (h1 : z < 9223372036854775808) : wrap64 z = z := by simp only [wrap64]; omega
theorem setb_int (x q : Nat) (c : Bool) (hq : q < 32) (hx : x < 4294967296) : wrap64 ((x : Int) + wrap64 (((c.toNat : Int) - (bitN x q : Int)) * 2 ^ q)) = (setb x q c : Int) := by
  have hp : (2 : Nat) ^ q ≤ 2 ^ 31 := Nat.pow_le_pow_right (by omega) (by omega)
  have e31 : (2 : Nat) ^ 31 = 2147483648 := rfl
  have e : ((2 : Int) ^ q) = ((2 ^ q : Nat) : Int) := by simp
  rw [e, setb_val]
  rw [e31] at hp
  have hbl := bitN_lt x q
  have hcl : c.toNat ≤ 1 := by cases c <;> simp
  have hz : -2147483648 ≤ ((c.toNat : Int) - (bitN x q : Int)) * ((2 ^ q : Nat) : Int) ∧ ((c.toNat : Int) - (bitN x q : Int)) * ((2 ^ q : Nat) : Int) ≤ 2147483648 := by
    generalize 2 ^ q = y at *
    obtain h | h | h : (c.toNat : Int) - (bitN x q : Int) = 0 ∨ (c.toNat : Int) - (bitN x q : Int) = 1 ∨ (c.toNat : Int) - (bitN x q : Int) = -1 := by omega
    · rw [h]; omega
    · rw [h]; omega
    · rw [h]; omega
  generalize ((c.toNat : Int) - (bitN x q : Int)) * ((2 ^ q : Nat) : Int) = z at *
  rw [wrap_small z (by omega) (by omega), wrap_small _ (by omega) (by omega)]

end Go.Proofs.Ytljodhcfimklkaa

namespace Go.Proofs.Ytljodhcfimklkaa
open Go.RowKit

set_option maxRecDepth 100000 in
set_option maxHeartbeats 2000000 in
theorem rMoveG_any (B gm g1 g2 g3 : Nat) (s : St) (q b k n : Nat) (w : World) (h : RM w B gm g1 g2 g3 s) (hB : B ≤ w.heap.size) (hq : q < 8) (hb : b + n ≤ 64) (hk : k + n ≤ 32) :
    Calls Try.prog 84 #[.pointer (some ⟨gm, 0, none⟩), .agg #[.int .u8 71, .int .i64 q, .int .i64 b, .int .i64 k, .int .i64 n]] w
      fun e w' => e = .returned (.tuple #[]) ∧ RM w' B gm g1 g2 g3 { s with reg := upd s.reg q (putTo (low (s.reg q)) s.N k b n : Nat) } ∧ Below B w w' := by
  have HRM := hide h
  have HBX : Hid (Below (w.heap.size + 1) (w.alloc (.cells #[.int .u8 71, .int .i64 q, .int .i64 b, .int .i64 k, .int .i64 n] 95)) (w.alloc (.cells #[.int .u8 71, .int .i64 q, .int .i64 b, .int .i64 k, .int .i64 n] 95))) := hide (Below.refl _ _)
  have hbx := fun (wx : World) (h : Below (w.heap.size + 1) (w.alloc (.cells #[.int .u8 71, .int .i64 q, .int .i64 b, .int .i64 k, .int .i64 n] 95)) wx) => box_cell h
  have hgm := fun (wx : World) (h : Below (w.heap.size + 1) (w.alloc (.cells #[.int .u8 71, .int .i64 q, .int .i64 b, .int .i64 k, .int .i64 n] 95)) wx) => blk_cell ((unhide HRM).bel (box_below h)).box
  have hrg := fun (wx : World) (h : Below (w.heap.size + 1) (w.alloc (.cells #[.int .u8 71, .int .i64 q, .int .i64 b, .int .i64 k, .int .i64 n] 95)) wx) => ((unhide HRM).bel (box_below h)).reg hq
  have hq0 : (0 : Int) ≤ (q : Int) := by omega
  have hq8 : (q : Int) < 8 := by omega
  clear h
  go_enter Try.func84, Try.ntmps84
  go_wp2
  refine wp_region_noPanic ?_
  refine wp_region_held_drew (S := fun wx => Below (w.heap.size + 1) (w.alloc (.cells #[.int .u8 71, .int .i64 q, .int .i64 b, .int .i64 k, .int .i64 n] 95)) wx) (by kernel_rfl) (unhide HBX).drew (fun hHeld => ?_)
  refine wpAnyH_take (i := 0) (v := ?_) (at_list rfl) (by kernel_rfl) (by kernel_rfl) (by kernel_rfl) (fun _ _ _ h => h) (Or.inl ⟨by rfl, ?_⟩) (by assumption) ?_
  rotate_left
  · intro w hSw; (try dsimp only at hSw); first | (go_simp; done) | (go_simp; with_reducible rfl)
  try simp only [Act.put]
  try simp only [List.setIfInBounds_toArray]
  try simp only [List.set_cons_succ]
  try simp only [List.set_cons_zero]
  refine wpAnyH_take (i := 1) (v := ?_) (at_list rfl) (by kernel_rfl) (by kernel_rfl) (by kernel_rfl) (fun _ _ _ h => h) (Or.inl ⟨by rfl, ?_⟩) (by assumption) ?_
  rotate_left
  · intro w hSw; (try dsimp only at hSw); first | (go_simp; done) | (go_simp; with_reducible rfl)
  try simp only [Act.put]
  try simp only [List.setIfInBounds_toArray]
  try simp only [List.set_cons_succ]
  try simp only [List.set_cons_zero]
  refine wpAnyH_take (i := 2) (v := ?_) (at_list rfl) (by kernel_rfl) (by kernel_rfl) (by kernel_rfl) (fun _ _ _ h => h) (Or.inl ⟨by rfl, ?_⟩) (by assumption) ?_
  rotate_left
  · intro w hSw; (try dsimp only at hSw); first | (go_simp; done) | (go_simp; with_reducible rfl)
  try simp only [Act.put]
  try simp only [List.setIfInBounds_toArray]
  try simp only [List.set_cons_succ]
  try simp only [List.set_cons_zero]
  refine wpAnyH_take (i := 3) (v := ?_) (at_list rfl) (by kernel_rfl) (by kernel_rfl) (by kernel_rfl) (fun _ _ _ h => h) (Or.inl ⟨by rfl, ?_⟩) (by assumption) ?_
  rotate_left
  · intro w hSw; (try dsimp only at hSw); first | (go_simp; done) | (go_simp; with_reducible rfl)
  try simp only [Act.put]
  try simp only [List.setIfInBounds_toArray]
  try simp only [List.set_cons_succ]
  try simp only [List.set_cons_zero]
  refine wpAnyH_take (i := 4) (v := ?_) (at_list rfl) (by kernel_rfl) (by kernel_rfl) (by kernel_rfl) (fun _ _ _ h => h) (Or.inl ⟨by rfl, ?_⟩) (by assumption) ?_
  rotate_left
  · intro w hSw; (try dsimp only at hSw); first | (go_simp; done) | (go_simp; with_reducible rfl)
  try simp only [Act.put]
  try simp only [List.setIfInBounds_toArray]
  try simp only [List.set_cons_succ]
  try simp only [List.set_cons_zero]
  refine wpAnyH_take (i := 5) (v := ?_) (at_list rfl) (by kernel_rfl) (by kernel_rfl) (by kernel_rfl) (fun _ _ _ h => h) (Or.inl ⟨by rfl, ?_⟩) (by assumption) ?_
  rotate_left
  · intro w hSw; (try dsimp only at hSw); first | (go_simp; done) | (go_simp; with_reducible rfl)
  try simp only [Act.put]
  try simp only [List.setIfInBounds_toArray]
  try simp only [List.set_cons_succ]
  try simp only [List.set_cons_zero]
  refine wpAnyH_take (i := 6) (v := ?_) (at_list rfl) (by kernel_rfl) (by kernel_rfl) (by kernel_rfl) (fun _ _ _ h => h) (Or.inl ⟨by rfl, ?_⟩) (by assumption) ?_
  rotate_left
  · intro w hSw; (try dsimp only at hSw); first | (go_simp; done) | (go_simp; with_reducible rfl)
  try simp only [Act.put]
  try simp only [List.setIfInBounds_toArray]
  try simp only [List.set_cons_succ]
  try simp only [List.set_cons_zero]
  refine wpAnyH_take (i := 7) (v := ?_) (at_list rfl) (by kernel_rfl) (by kernel_rfl) (by kernel_rfl) (fun _ _ _ h => h) (Or.inl ⟨by rfl, ?_⟩) (by assumption) ?_
  rotate_left
  · intro w hSw; (try dsimp only at hSw); first | (go_simp; done) | (go_simp; with_reducible rfl)
  try simp only [Act.put]
  try simp only [List.setIfInBounds_toArray]
  try simp only [List.set_cons_succ]
  try simp only [List.set_cons_zero]
  refine wpAnyH_ready (rs := [8]) (by kernel_rfl) (by simp) ?_
  refine AllReadyH.cons (at_list rfl) (fun K hK => ?_) AllReadyH.nil
  go_simp
  refine (mod_any _ _ _ (by omega) (by omega)).mono ?_; rintro e w' ⟨rfl, rfl⟩; dsimp only
  refine hK.out _ _ (hHeld) (fun hHeld => ?_)
  clear hK K
  try simp only [Act.put]
  try simp only [List.setIfInBounds_toArray]
  try simp only [List.set_cons_succ]
  try simp only [List.set_cons_zero]
  refine wpAnyH_take (i := 9) (v := ?_) (at_list rfl) (by kernel_rfl) (by kernel_rfl) (by kernel_rfl) (fun _ _ _ h => h) (Or.inl ⟨by rfl, ?_⟩) (by assumption) ?_
  rotate_left
  · intro w hSw; (try dsimp only at hSw); first | (go_simp; done) | (go_simp; with_reducible rfl)
  try simp only [Act.put]
  try simp only [List.setIfInBounds_toArray]
  try simp only [List.set_cons_succ]
  try simp only [List.set_cons_zero]
  refine wpAnyH_done (by kernel_rfl) ?_ _
  refine NoPanic.normal ?_
  rw [low_int]
  have HB0 := hide hHeld
  obtain ⟨x0, HX0⟩ : ∃ x, Hid (x = low (s.reg q)) := ⟨_, hide rfl⟩
  have hx0 : x0 < 4294967296 := by rw [unhide HX0]; exact low_lt _
  rw [← unhide HX0]
  clear hHeld hrg
  go_wp2
  go_loopw [4, 5] (fun v j wr => ∃ i : Nat, i ≤ n ∧ j = .int .i64 i ∧ v = .int .i64 (putTo x0 s.N k b i : Nat) ∧ Below (w.heap.size + 1) (w.alloc (.cells #[.int .u8 71, .int .i64 q, .int .i64 b, .int .i64 k, .int .i64 n] 95)) wr) (fun _ j _ => n - (intOf j).toNat)
  case atStart => exact ⟨0, by omega, rfl, rfl, unhide HB0⟩
  case round =>
    obtain ⟨i, hi, rfl, rfl, hb1⟩ := hrel
    have HB1 := hide hb1
    have hbw := hbx wr hb1
    have hgw := hgm wr hb1
    obtain ⟨x, HX⟩ : ∃ x, Hid (x = putTo x0 s.N k b i) := ⟨_, hide rfl⟩
    have hxl : x < 4294967296 := by rw [unhide HX]; exact putTo_lt (m := 32) _ _ _ _ hx0 (by omega)
    rw [← unhide HX]
    clear hb1
    by_cases hlt : i < n
    · have hand := one_and x (k + i) hxl
      have hbt := fun (wx : World) (h : Below (w.heap.size + 1) (w.alloc (.cells #[.int .u8 71, .int .i64 q, .int .i64 b, .int .i64 k, .int .i64 n] 95)) wx) => ((unhide HRM).bel (box_below h)).bit (show b + i < 64 by omega)
      have HSET := hide (setb_int x (k + i) (s.N.testBit (b + i)) (by omega) hxl)
      rw [test_toNat] at HSET
      have HNX := hide (show putTo x0 s.N k b (i + 1) = setb x (k + i) (s.N.testBit (b + i)) by rw [putTo, unhide HX])
      have hbn := bitN_lt s.N (b + i)
      have hon := bitN_lt x (k + i)
      have hlt' : (i : Int) < (n : Int) := by omega
      have hw1 : IntKind.i64.wrap ((b : Int) + (i : Int)) = (b : Int) + (i : Int) := by rw [IntKind.wrap_i64]; omega
      have hw3 : (0 : Int) ≤ (b : Int) + (i : Int) := by omega
      have hw4 : (b : Int) + (i : Int) < 64 := by omega
      have hw5 : ((b : Int) + (i : Int)).toNat = b + i := by omega
      go_wp2
      refine wp_region_noPanic ?_
      refine wp_region_held_drew (S := fun wx => Below (w.heap.size + 1) (w.alloc (.cells #[.int .u8 71, .int .i64 q, .int .i64 b, .int .i64 k, .int .i64 n] 95)) wx) (by kernel_rfl) (unhide HB1).drew (fun hHeld => ?_)
      refine wpAnyH_take (i := 0) (v := ?_) (at_list rfl) (by kernel_rfl) (by kernel_rfl) (by kernel_rfl) (fun _ _ _ h => h) (Or.inl ⟨by rfl, ?_⟩) (by assumption) ?_
      rotate_left
      · intro w hSw; (try dsimp only at hSw); first | (go_simp; done) | (go_simp; with_reducible rfl)
      try simp only [Act.put]
      try simp only [List.setIfInBounds_toArray]
      try simp only [List.set_cons_succ]
      try simp only [List.set_cons_zero]
      refine wpAnyH_take (i := 1) (v := ?_) (at_list rfl) (by kernel_rfl) (by kernel_rfl) (by kernel_rfl) (fun _ _ _ h => h) (Or.inl ⟨by rfl, ?_⟩) (by assumption) ?_
      rotate_left
      · intro w hSw; (try dsimp only at hSw); first | (go_simp; done) | (go_simp; with_reducible rfl)
      try simp only [Act.put]
      try simp only [List.setIfInBounds_toArray]
      try simp only [List.set_cons_succ]
      try simp only [List.set_cons_zero]
      refine wpAnyH_take (i := 2) (v := ?_) (at_list rfl) (by kernel_rfl) (by kernel_rfl) (by kernel_rfl) (fun _ _ _ h => h) (Or.inl ⟨by rfl, ?_⟩) (by assumption) ?_
      rotate_left
      · intro w hSw; (try dsimp only at hSw); first | (go_simp; done) | (go_simp; with_reducible rfl)
      try simp only [Act.put]
      try simp only [List.setIfInBounds_toArray]
      try simp only [List.set_cons_succ]
      try simp only [List.set_cons_zero]
      refine wpAnyH_take (i := 3) (v := ?_) (at_list rfl) (by kernel_rfl) (by kernel_rfl) (by kernel_rfl) (fun _ _ _ h => h) (Or.inl ⟨by rfl, ?_⟩) (by assumption) ?_
      rotate_left
      · intro w hSw; (try dsimp only at hSw); first | (go_simp; done) | (go_simp; with_reducible rfl)
      try simp only [Act.put]
      try simp only [List.setIfInBounds_toArray]
      try simp only [List.set_cons_succ]
      try simp only [List.set_cons_zero]
      refine wpAnyH_take (i := 4) (v := ?_) (at_list rfl) (by kernel_rfl) (by kernel_rfl) (by kernel_rfl) (fun _ _ _ h => h) (Or.inl ⟨by rfl, ?_⟩) (by assumption) ?_
      rotate_left
      · intro w hSw; (try dsimp only at hSw); first | (go_simp; done) | (go_simp; with_reducible rfl)
      try simp only [Act.put]
      try simp only [List.setIfInBounds_toArray]
      try simp only [List.set_cons_succ]
      try simp only [List.set_cons_zero]
      refine wpAnyH_take (i := 5) (v := ?_) (at_list rfl) (by kernel_rfl) (by kernel_rfl) (by kernel_rfl) (fun _ _ _ h => h) (Or.inl ⟨by rfl, ?_⟩) (by assumption) ?_
      rotate_left
      · intro w hSw; (try dsimp only at hSw); first | (go_simp; done) | (go_simp; with_reducible rfl)
      try simp only [Act.put]
      try simp only [List.setIfInBounds_toArray]
      try simp only [List.set_cons_succ]
      try simp only [List.set_cons_zero]
      refine wpAnyH_take (i := 6) (v := ?_) (at_list rfl) (by kernel_rfl) (by kernel_rfl) (by kernel_rfl) (fun _ _ _ h => h) (Or.inl ⟨by rfl, ?_⟩) (by assumption) ?_
      rotate_left
      · intro w hSw; (try dsimp only at hSw); first | (go_simp; done) | (go_simp; with_reducible rfl)
      try simp only [Act.put]
      try simp only [List.setIfInBounds_toArray]
      try simp only [List.set_cons_succ]
      try simp only [List.set_cons_zero]
      refine wpAnyH_take (i := 7) (v := ?_) (at_list rfl) (by kernel_rfl) (by kernel_rfl) (by kernel_rfl) (fun _ _ _ h => h) (Or.inl ⟨by rfl, ?_⟩) (by assumption) ?_
      rotate_left
      · intro w hSw; (try dsimp only at hSw); first | (go_simp; done) | (go_simp; with_reducible rfl)
      try simp only [Act.put]
      try simp only [List.setIfInBounds_toArray]
      try simp only [List.set_cons_succ]
      try simp only [List.set_cons_zero]
      refine wpAnyH_take (i := 8) (v := ?_) (at_list rfl) (by kernel_rfl) (by kernel_rfl) (by kernel_rfl) (fun _ _ _ h => h) (Or.inl ⟨by rfl, ?_⟩) (by assumption) ?_
      rotate_left
      · intro w hSw; (try dsimp only at hSw); first | (go_simp; done) | (go_simp; with_reducible rfl)
      try simp only [Act.put]
      try simp only [List.setIfInBounds_toArray]
      try simp only [List.set_cons_succ]
      try simp only [List.set_cons_zero]
      refine wpAnyH_take (i := 9) (v := ?_) (at_list rfl) (by kernel_rfl) (by kernel_rfl) (by kernel_rfl) (fun _ _ _ h => h) (Or.inl ⟨by rfl, ?_⟩) (by assumption) ?_
      rotate_left
      · intro w hSw; (try dsimp only at hSw); first | (go_simp; done) | (go_simp; with_reducible rfl)
      try simp only [Act.put]
      try simp only [List.setIfInBounds_toArray]
      try simp only [List.set_cons_succ]
      try simp only [List.set_cons_zero]
      refine wpAnyH_take (i := 10) (v := ?_) (at_list rfl) (by kernel_rfl) (by kernel_rfl) (by kernel_rfl) (fun _ _ _ h => h) (Or.inl ⟨by rfl, ?_⟩) (by assumption) ?_
      rotate_left
      · intro w hSw; (try dsimp only at hSw); first | (go_simp; done) | (go_simp; with_reducible rfl)
      try simp only [Act.put]
      try simp only [List.setIfInBounds_toArray]
      try simp only [List.set_cons_succ]
      try simp only [List.set_cons_zero]
      refine wpAnyH_done (by kernel_rfl) ?_ _
      refine NoPanic.normal ?_
      have hbw2 := hbx _ hHeld
      have HB2 := hide hHeld
      clear hHeld hbt hbw hgw hbx hgm
      go_wp2
      go_roundw
      case rel => exact ⟨i + 1, by omega, by go_num, by rw [unhide HNX, ← unhide HSET], unhide HB2⟩
      case measure => simp [intOf]; omega
    · have hin : i = n := by omega
      have HR := hide (show x = putTo (low (s.reg q)) s.N k b n by rw [unhide HX, unhide HX0, hin])
      have HM1 := hide ((unhide HRM).bel (box_below (unhide HB1)))
      have HBI := hide (show wr.heap[w.heap.size]? = some (.cells #[.int .u8 71, .int .i64 q, .int .i64 b, .int .i64 k, .int .i64 n] 95 (0, 0)) by rw [(unhide HB1).block _ (by omega)]; exact blk_new _ _)
      have hlt' : ¬ (i : Int) < (n : Int) := by omega
      have hdm := fun (wx : World) (h : wx.heap[gm]? = some (.cells #[.slice (some ⟨g1, 0, none⟩) 8 8, .slice (some ⟨g2, 0, none⟩) 64 64, .slice (some ⟨g3, 0, none⟩) 8 8] 107 (0, 0)) ∧ wx.heap[w.heap.size]? = some (.cells #[.int .u8 71, .int .i64 q, .int .i64 b, .int .i64 k, .int .i64 n] 95 (0, 0))) => blk_cell h.1
      have hdb := fun (wx : World) (h : wx.heap[gm]? = some (.cells #[.slice (some ⟨g1, 0, none⟩) 8 8, .slice (some ⟨g2, 0, none⟩) 64 64, .slice (some ⟨g3, 0, none⟩) 8 8] 107 (0, 0)) ∧ wx.heap[w.heap.size]? = some (.cells #[.int .u8 71, .int .i64 q, .int .i64 b, .int .i64 k, .int .i64 n] 95 (0, 0))) => blk_cell h.2
      clear hin
      go_wp2
      refine wp_region_noPanic ?_
      refine wp_region_held_drew (S := fun wx => wx.heap[gm]? = some (.cells #[.slice (some ⟨g1, 0, none⟩) 8 8, .slice (some ⟨g2, 0, none⟩) 64 64, .slice (some ⟨g3, 0, none⟩) 8 8] 107 (0, 0)) ∧ wx.heap[w.heap.size]? = some (.cells #[.int .u8 71, .int .i64 q, .int .i64 b, .int .i64 k, .int .i64 n] 95 (0, 0))) (by kernel_rfl) ⟨(unhide HM1).box, unhide HBI⟩ (fun hHeld => ?_)
      have HM2 := hide ((unhide HM1).bel (Below.refl wr.heap.size wr).drew)
      have hrc := (unhide HM2).reg hq
      have hfr := (unhide HM2).regs.frozenAt q
      have hne : w.heap.size ≠ g1 := by have := (unhide HRM).l1; omega
      have hS9 := And.intro ((unhide HM2).setReg q (x : Int)).box (blk_set_other (j := q) (.int .i64 (x : Int)) hHeld.2 hne)
      have HB9 := hide (((box_below (unhide HB1)).mono hB).drew.setCell (p := ⟨g1, q, none⟩) (unhide HRM).l1.1 (.int .i64 (x : Int)))
      refine wpAnyH_take (i := 0) (v := ?_) (at_list rfl) (by kernel_rfl) (by kernel_rfl) (by kernel_rfl) (fun _ _ _ h => h) (Or.inl ⟨by rfl, ?_⟩) (by assumption) ?_
      rotate_left
      · intro w hSw; (try dsimp only at hSw); first | (go_simp; done) | (go_simp; with_reducible rfl)
      try simp only [Act.put]
      try simp only [List.setIfInBounds_toArray]
      try simp only [List.set_cons_succ]
      try simp only [List.set_cons_zero]
      refine wpAnyH_take (i := 1) (v := ?_) (at_list rfl) (by kernel_rfl) (by kernel_rfl) (by kernel_rfl) (fun _ _ _ h => h) (Or.inl ⟨by rfl, ?_⟩) (by assumption) ?_
      rotate_left
      · intro w hSw; (try dsimp only at hSw); first | (go_simp; done) | (go_simp; with_reducible rfl)
      try simp only [Act.put]
      try simp only [List.setIfInBounds_toArray]
      try simp only [List.set_cons_succ]
      try simp only [List.set_cons_zero]
      refine wpAnyH_take (i := 2) (v := ?_) (at_list rfl) (by kernel_rfl) (by kernel_rfl) (by kernel_rfl) (fun _ _ _ h => h) (Or.inl ⟨by rfl, ?_⟩) (by assumption) ?_
      rotate_left
      · intro w hSw; (try dsimp only at hSw); first | (go_simp; done) | (go_simp; with_reducible rfl)
      try simp only [Act.put]
      try simp only [List.setIfInBounds_toArray]
      try simp only [List.set_cons_succ]
      try simp only [List.set_cons_zero]
      refine wpAnyH_take (i := 3) (v := ?_) (at_list rfl) (by kernel_rfl) (by kernel_rfl) (by kernel_rfl) (fun _ _ _ h => h) (Or.inl ⟨by rfl, ?_⟩) (by assumption) ?_
      rotate_left
      · intro w hSw; (try dsimp only at hSw); first | (go_simp; done) | (go_simp; with_reducible rfl)
      try simp only [Act.put]
      try simp only [List.setIfInBounds_toArray]
      try simp only [List.set_cons_succ]
      try simp only [List.set_cons_zero]
      refine wpAnyH_take (i := 4) (v := ?_) (at_list rfl) (by kernel_rfl) (by kernel_rfl) (by kernel_rfl) (fun _ _ _ h => h) (Or.inl ⟨by rfl, ?_⟩) (by assumption) ?_
      rotate_left
      · intro w hSw; (try dsimp only at hSw); first | (go_simp; done) | (go_simp; with_reducible rfl)
      try simp only [Act.put]
      try simp only [List.setIfInBounds_toArray]
      try simp only [List.set_cons_succ]
      try simp only [List.set_cons_zero]
      refine wpAnyH_take (i := 5) (v := ?_) (at_list rfl) (by kernel_rfl) (by kernel_rfl) (by kernel_rfl) (fun _ _ _ h => h) (Or.inl ⟨by rfl, ?_⟩) (by assumption) ?_
      rotate_left
      · intro w hSw; (try dsimp only at hSw); first | (go_simp; done) | (go_simp; with_reducible rfl)
      try simp only [Act.put]
      try simp only [List.setIfInBounds_toArray]
      try simp only [List.set_cons_succ]
      try simp only [List.set_cons_zero]
      refine wpAnyH_take (i := 6) (v := ?_) (at_list rfl) (by kernel_rfl) (by kernel_rfl) (by kernel_rfl) (fun _ _ _ h => h) (Or.inl ⟨by rfl, ?_⟩) (by assumption) ?_
      rotate_left
      · intro w hSw; (try dsimp only at hSw); first | (go_simp; done) | (go_simp; with_reducible rfl)
      try simp only [Act.put]
      try simp only [List.setIfInBounds_toArray]
      try simp only [List.set_cons_succ]
      try simp only [List.set_cons_zero]
      refine wpAnyH_take (i := 7) (v := ?_) (at_list rfl) (by kernel_rfl) (by kernel_rfl) (by kernel_rfl) (fun _ _ _ h => h) (Or.inl ⟨by rfl, ?_⟩) (by assumption) ?_
      rotate_left
      · intro w hSw; (try dsimp only at hSw); first | (go_simp; done) | (go_simp; with_reducible rfl)
      try simp only [Act.put]
      try simp only [List.setIfInBounds_toArray]
      try simp only [List.set_cons_succ]
      try simp only [List.set_cons_zero]
      refine wpAnyH_ready (rs := [8]) (by kernel_rfl) (by simp) ?_
      refine AllReadyH.cons (at_list rfl) (fun K hK => ?_) AllReadyH.nil
      go_simp
      refine hK.out _ _ (hS9) (fun hHeld => ?_)
      clear hK K
      try simp only [Act.put]
      try simp only [List.setIfInBounds_toArray]
      try simp only [List.set_cons_succ]
      try simp only [List.set_cons_zero]
      refine wpAnyH_done (by kernel_rfl) ?_ _
      refine NoPanic.normal ?_
      clear hdm hdb
      go_wp2
      go_end0
      refine ⟨rfl, ?_, unhide HB9⟩
      rw [← unhide HR]
      exact (unhide HM2).setReg q _

set_option maxRecDepth 100000 in
set_option maxHeartbeats 2000000 in
theorem rMoveP_any (B gm g1 g2 g3 : Nat) (s : St) (q b k n : Nat) (w : World) (h : RM w B gm g1 g2 g3 s) (hB : B ≤ w.heap.size) (hq : q < 8) (hb : b + n ≤ 64) (hk : k + n ≤ 32) :
    Calls Try.prog 84 #[.pointer (some ⟨gm, 0, none⟩), .agg #[.int .u8 80, .int .i64 q, .int .i64 b, .int .i64 k, .int .i64 n]] w
      fun e w' => e = .returned (.tuple #[]) ∧ RM w' B gm g1 g2 g3 { s with N := putTo s.N (low (s.reg q)) b k n } ∧ Below B w w' := by
  have HRM := hide h
  have HBX : Hid (Below (w.heap.size + 1) (w.alloc (.cells #[.int .u8 80, .int .i64 q, .int .i64 b, .int .i64 k, .int .i64 n] 95)) (w.alloc (.cells #[.int .u8 80, .int .i64 q, .int .i64 b, .int .i64 k, .int .i64 n] 95))) := hide (Below.refl _ _)
  have hbx := fun (wx : World) (h : Below (w.heap.size + 1) (w.alloc (.cells #[.int .u8 80, .int .i64 q, .int .i64 b, .int .i64 k, .int .i64 n] 95)) wx) => box_cell h
  have hgm := fun (wx : World) (h : Below (w.heap.size + 1) (w.alloc (.cells #[.int .u8 80, .int .i64 q, .int .i64 b, .int .i64 k, .int .i64 n] 95)) wx) => blk_cell ((unhide HRM).bel (box_below h)).box
  have hrg := fun (wx : World) (h : Below (w.heap.size + 1) (w.alloc (.cells #[.int .u8 80, .int .i64 q, .int .i64 b, .int .i64 k, .int .i64 n] 95)) wx) => ((unhide HRM).bel (box_below h)).reg hq
  have hq0 : (0 : Int) ≤ (q : Int) := by omega
  have hq8 : (q : Int) < 8 := by omega
  clear h
  go_enter Try.func84, Try.ntmps84
  go_wp2
  refine wp_region_noPanic ?_
  refine wp_region_held_drew (S := fun wx => Below (w.heap.size + 1) (w.alloc (.cells #[.int .u8 80, .int .i64 q, .int .i64 b, .int .i64 k, .int .i64 n] 95)) wx) (by kernel_rfl) (unhide HBX).drew (fun hHeld => ?_)
  refine wpAnyH_take (i := 0) (v := ?_) (at_list rfl) (by kernel_rfl) (by kernel_rfl) (by kernel_rfl) (fun _ _ _ h => h) (Or.inl ⟨by rfl, ?_⟩) (by assumption) ?_
  rotate_left
  · intro w hSw; (try dsimp only at hSw); first | (go_simp; done) | (go_simp; with_reducible rfl)
  try simp only [Act.put]
  try simp only [List.setIfInBounds_toArray]
  try simp only [List.set_cons_succ]
  try simp only [List.set_cons_zero]
  refine wpAnyH_take (i := 1) (v := ?_) (at_list rfl) (by kernel_rfl) (by kernel_rfl) (by kernel_rfl) (fun _ _ _ h => h) (Or.inl ⟨by rfl, ?_⟩) (by assumption) ?_
  rotate_left
  · intro w hSw; (try dsimp only at hSw); first | (go_simp; done) | (go_simp; with_reducible rfl)
  try simp only [Act.put]
  try simp only [List.setIfInBounds_toArray]
  try simp only [List.set_cons_succ]
  try simp only [List.set_cons_zero]
  refine wpAnyH_take (i := 2) (v := ?_) (at_list rfl) (by kernel_rfl) (by kernel_rfl) (by kernel_rfl) (fun _ _ _ h => h) (Or.inl ⟨by rfl, ?_⟩) (by assumption) ?_
  rotate_left
  · intro w hSw; (try dsimp only at hSw); first | (go_simp; done) | (go_simp; with_reducible rfl)
  try simp only [Act.put]
  try simp only [List.setIfInBounds_toArray]
  try simp only [List.set_cons_succ]
  try simp only [List.set_cons_zero]
  refine wpAnyH_take (i := 3) (v := ?_) (at_list rfl) (by kernel_rfl) (by kernel_rfl) (by kernel_rfl) (fun _ _ _ h => h) (Or.inl ⟨by rfl, ?_⟩) (by assumption) ?_
  rotate_left
  · intro w hSw; (try dsimp only at hSw); first | (go_simp; done) | (go_simp; with_reducible rfl)
  try simp only [Act.put]
  try simp only [List.setIfInBounds_toArray]
  try simp only [List.set_cons_succ]
  try simp only [List.set_cons_zero]
  refine wpAnyH_take (i := 4) (v := ?_) (at_list rfl) (by kernel_rfl) (by kernel_rfl) (by kernel_rfl) (fun _ _ _ h => h) (Or.inl ⟨by rfl, ?_⟩) (by assumption) ?_
  rotate_left
  · intro w hSw; (try dsimp only at hSw); first | (go_simp; done) | (go_simp; with_reducible rfl)
  try simp only [Act.put]
  try simp only [List.setIfInBounds_toArray]
  try simp only [List.set_cons_succ]
  try simp only [List.set_cons_zero]
  refine wpAnyH_take (i := 5) (v := ?_) (at_list rfl) (by kernel_rfl) (by kernel_rfl) (by kernel_rfl) (fun _ _ _ h => h) (Or.inl ⟨by rfl, ?_⟩) (by assumption) ?_
  rotate_left
  · intro w hSw; (try dsimp only at hSw); first | (go_simp; done) | (go_simp; with_reducible rfl)
  try simp only [Act.put]
  try simp only [List.setIfInBounds_toArray]
  try simp only [List.set_cons_succ]
  try simp only [List.set_cons_zero]
  refine wpAnyH_take (i := 6) (v := ?_) (at_list rfl) (by kernel_rfl) (by kernel_rfl) (by kernel_rfl) (fun _ _ _ h => h) (Or.inl ⟨by rfl, ?_⟩) (by assumption) ?_
  rotate_left
  · intro w hSw; (try dsimp only at hSw); first | (go_simp; done) | (go_simp; with_reducible rfl)
  try simp only [Act.put]
  try simp only [List.setIfInBounds_toArray]
  try simp only [List.set_cons_succ]
  try simp only [List.set_cons_zero]
  refine wpAnyH_take (i := 7) (v := ?_) (at_list rfl) (by kernel_rfl) (by kernel_rfl) (by kernel_rfl) (fun _ _ _ h => h) (Or.inl ⟨by rfl, ?_⟩) (by assumption) ?_
  rotate_left
  · intro w hSw; (try dsimp only at hSw); first | (go_simp; done) | (go_simp; with_reducible rfl)
  try simp only [Act.put]
  try simp only [List.setIfInBounds_toArray]
  try simp only [List.set_cons_succ]
  try simp only [List.set_cons_zero]
  refine wpAnyH_ready (rs := [8]) (by kernel_rfl) (by simp) ?_
  refine AllReadyH.cons (at_list rfl) (fun K hK => ?_) AllReadyH.nil
  go_simp
  refine (mod_any _ _ _ (by omega) (by omega)).mono ?_; rintro e w' ⟨rfl, rfl⟩; dsimp only
  refine hK.out _ _ (hHeld) (fun hHeld => ?_)
  clear hK K
  try simp only [Act.put]
  try simp only [List.setIfInBounds_toArray]
  try simp only [List.set_cons_succ]
  try simp only [List.set_cons_zero]
  refine wpAnyH_take (i := 9) (v := ?_) (at_list rfl) (by kernel_rfl) (by kernel_rfl) (by kernel_rfl) (fun _ _ _ h => h) (Or.inl ⟨by rfl, ?_⟩) (by assumption) ?_
  rotate_left
  · intro w hSw; (try dsimp only at hSw); first | (go_simp; done) | (go_simp; with_reducible rfl)
  try simp only [Act.put]
  try simp only [List.setIfInBounds_toArray]
  try simp only [List.set_cons_succ]
  try simp only [List.set_cons_zero]
  refine wpAnyH_done (by kernel_rfl) ?_ _
  refine NoPanic.normal ?_
  rw [low_int]
  have HB0 := hide hHeld
  obtain ⟨x0, HX0⟩ : ∃ x, Hid (x = low (s.reg q)) := ⟨_, hide rfl⟩
  have hx0 : x0 < 4294967296 := by rw [unhide HX0]; exact low_lt _
  rw [← unhide HX0]
  clear hHeld hrg
  go_wp2
  go_loopw [4, 5] (fun v j wr => ∃ i : Nat, i ≤ n ∧ j = .int .i64 i ∧ v = .int .i64 x0 ∧ RM wr B gm g1 g2 g3 { s with N := putTo s.N x0 b k i } ∧ wr.heap[w.heap.size]? = some (.cells #[.int .u8 80, .int .i64 q, .int .i64 b, .int .i64 k, .int .i64 n] 95 (0, 0)) ∧ Below B w wr) (fun _ j _ => n - (intOf j).toNat)
  case atStart => exact ⟨0, by omega, rfl, rfl, (unhide HRM).bel (box_below (unhide HB0)), blk_new _ _, (box_below (unhide HB0)).mono hB⟩
  case round =>
    obtain ⟨i, hi, rfl, rfl, hm1, hbi, hb1⟩ := hrel
    have HM1 := hide hm1
    have HBI := hide hbi
    have HB1 := hide hb1
    have hbw := blk_cell hbi
    have hgw := blk_cell hm1.box
    have hne : w.heap.size ≠ g2 := by have := (unhide HRM).l2; omega
    clear hb1 hm1 hbi hbx hgm
    by_cases hlt : i < n
    · have hand := one_and x0 (k + i) hx0
      have HNX := hide (show putTo s.N x0 b k (i + 1) = setb (putTo s.N x0 b k i) (b + i) (x0.testBit (k + i)) from rfl)
      have hlt' : (i : Int) < (n : Int) := by omega
      have hw1 : IntKind.i64.wrap ((b : Int) + (i : Int)) = (b : Int) + (i : Int) := by rw [IntKind.wrap_i64]; omega
      have hw3 : (0 : Int) ≤ (b : Int) + (i : Int) := by omega
      have hw4 : (b : Int) + (i : Int) < 64 := by omega
      have hw5 : ((b : Int) + (i : Int)).toNat = b + i := by omega
      have hbl : b + i < 64 := by omega
      generalize putTo s.N x0 b k i = N1 at *
      have hdm := fun (wx : World) (h : wx.heap[gm]? = some (.cells #[.slice (some ⟨g1, 0, none⟩) 8 8, .slice (some ⟨g2, 0, none⟩) 64 64, .slice (some ⟨g3, 0, none⟩) 8 8] 107 (0, 0)) ∧ wx.heap[w.heap.size]? = some (.cells #[.int .u8 80, .int .i64 q, .int .i64 b, .int .i64 k, .int .i64 n] 95 (0, 0))) => blk_cell h.1
      have hdb := fun (wx : World) (h : wx.heap[gm]? = some (.cells #[.slice (some ⟨g1, 0, none⟩) 8 8, .slice (some ⟨g2, 0, none⟩) 64 64, .slice (some ⟨g3, 0, none⟩) 8 8] 107 (0, 0)) ∧ wx.heap[w.heap.size]? = some (.cells #[.int .u8 80, .int .i64 q, .int .i64 b, .int .i64 k, .int .i64 n] 95 (0, 0))) => blk_cell h.2
      have hwb := fun (wx : World) (h : Below wr.heap.size wr wx) => blk_cell (blk_below (unhide HBI) h)
      have hwm := fun (wx : World) (h : Below wr.heap.size wr wx) => blk_cell ((unhide HM1).bel h).box
      have hwt := fun (wx : World) (h : Below wr.heap.size wr wx) => ((unhide HM1).bel h).bit hbl
      go_wp2
      refine wp_region_noPanic ?_
      refine wp_region_held_drew (S := fun wx => Below wr.heap.size wr wx) (by kernel_rfl) (Below.refl _ _).drew (fun hHeld => ?_)
      refine wpAnyH_take (i := 0) (v := ?_) (at_list rfl) (by kernel_rfl) (by kernel_rfl) (by kernel_rfl) (fun _ _ _ h => h) (Or.inl ⟨by rfl, ?_⟩) (by assumption) ?_
      rotate_left
      · intro w hSw; (try dsimp only at hSw); first | (go_simp; done) | (go_simp; with_reducible rfl)
      try simp only [Act.put]
      try simp only [List.setIfInBounds_toArray]
      try simp only [List.set_cons_succ]
      try simp only [List.set_cons_zero]
      refine wpAnyH_take (i := 1) (v := ?_) (at_list rfl) (by kernel_rfl) (by kernel_rfl) (by kernel_rfl) (fun _ _ _ h => h) (Or.inl ⟨by rfl, ?_⟩) (by assumption) ?_
      rotate_left
      · intro w hSw; (try dsimp only at hSw); first | (go_simp; done) | (go_simp; with_reducible rfl)
      try simp only [Act.put]
      try simp only [List.setIfInBounds_toArray]
      try simp only [List.set_cons_succ]
      try simp only [List.set_cons_zero]
      refine wpAnyH_take (i := 2) (v := ?_) (at_list rfl) (by kernel_rfl) (by kernel_rfl) (by kernel_rfl) (fun _ _ _ h => h) (Or.inl ⟨by rfl, ?_⟩) (by assumption) ?_
      rotate_left
      · intro w hSw; (try dsimp only at hSw); first | (go_simp; done) | (go_simp; with_reducible rfl)
      try simp only [Act.put]
      try simp only [List.setIfInBounds_toArray]
      try simp only [List.set_cons_succ]
      try simp only [List.set_cons_zero]
      refine wpAnyH_take (i := 3) (v := ?_) (at_list rfl) (by kernel_rfl) (by kernel_rfl) (by kernel_rfl) (fun _ _ _ h => h) (Or.inl ⟨by rfl, ?_⟩) (by assumption) ?_
      rotate_left
      · intro w hSw; (try dsimp only at hSw); first | (go_simp; done) | (go_simp; with_reducible rfl)
      try simp only [Act.put]
      try simp only [List.setIfInBounds_toArray]
      try simp only [List.set_cons_succ]
      try simp only [List.set_cons_zero]
      refine wpAnyH_take (i := 4) (v := ?_) (at_list rfl) (by kernel_rfl) (by kernel_rfl) (by kernel_rfl) (fun _ _ _ h => h) (Or.inl ⟨by rfl, ?_⟩) (by assumption) ?_
      rotate_left
      · intro w hSw; (try dsimp only at hSw); first | (go_simp; done) | (go_simp; with_reducible rfl)
      try simp only [Act.put]
      try simp only [List.setIfInBounds_toArray]
      try simp only [List.set_cons_succ]
      try simp only [List.set_cons_zero]
      refine wpAnyH_take (i := 5) (v := ?_) (at_list rfl) (by kernel_rfl) (by kernel_rfl) (by kernel_rfl) (fun _ _ _ h => h) (Or.inl ⟨by rfl, ?_⟩) (by assumption) ?_
      rotate_left
      · intro w hSw; (try dsimp only at hSw); first | (go_simp; done) | (go_simp; with_reducible rfl)
      try simp only [Act.put]
      try simp only [List.setIfInBounds_toArray]
      try simp only [List.set_cons_succ]
      try simp only [List.set_cons_zero]
      refine wpAnyH_take (i := 6) (v := ?_) (at_list rfl) (by kernel_rfl) (by kernel_rfl) (by kernel_rfl) (fun _ _ _ h => h) (Or.inl ⟨by rfl, ?_⟩) (by assumption) ?_
      rotate_left
      · intro w hSw; (try dsimp only at hSw); first | (go_simp; done) | (go_simp; with_reducible rfl)
      try simp only [Act.put]
      try simp only [List.setIfInBounds_toArray]
      try simp only [List.set_cons_succ]
      try simp only [List.set_cons_zero]
      refine wpAnyH_take (i := 7) (v := ?_) (at_list rfl) (by kernel_rfl) (by kernel_rfl) (by kernel_rfl) (fun _ _ _ h => h) (Or.inl ⟨by rfl, ?_⟩) (by assumption) ?_
      rotate_left
      · intro w hSw; (try dsimp only at hSw); first | (go_simp; done) | (go_simp; with_reducible rfl)
      try simp only [Act.put]
      try simp only [List.setIfInBounds_toArray]
      try simp only [List.set_cons_succ]
      try simp only [List.set_cons_zero]
      refine wpAnyH_take (i := 8) (v := ?_) (at_list rfl) (by kernel_rfl) (by kernel_rfl) (by kernel_rfl) (fun _ _ _ h => h) (Or.inl ⟨by rfl, ?_⟩) (by assumption) ?_
      rotate_left
      · intro w hSw; (try dsimp only at hSw); first | (go_simp; done) | (go_simp; with_reducible rfl)
      try simp only [Act.put]
      try simp only [List.setIfInBounds_toArray]
      try simp only [List.set_cons_succ]
      try simp only [List.set_cons_zero]
      refine wpAnyH_take (i := 9) (v := ?_) (at_list rfl) (by kernel_rfl) (by kernel_rfl) (by kernel_rfl) (fun _ _ _ h => h) (Or.inl ⟨by rfl, ?_⟩) (by assumption) ?_
      rotate_left
      · intro w hSw; (try dsimp only at hSw); first | (go_simp; done) | (go_simp; with_reducible rfl)
      try simp only [Act.put]
      try simp only [List.setIfInBounds_toArray]
      try simp only [List.set_cons_succ]
      try simp only [List.set_cons_zero]
      refine wpAnyH_take (i := 10) (v := ?_) (at_list rfl) (by kernel_rfl) (by kernel_rfl) (by kernel_rfl) (fun _ _ _ h => h) (Or.inl ⟨by rfl, ?_⟩) (by assumption) ?_
      rotate_left
      · intro w hSw; (try dsimp only at hSw); first | (go_simp; done) | (go_simp; with_reducible rfl)
      try simp only [Act.put]
      try simp only [List.setIfInBounds_toArray]
      try simp only [List.set_cons_succ]
      try simp only [List.set_cons_zero]
      refine wpAnyH_done (by kernel_rfl) ?_ _
      refine NoPanic.normal ?_
      have HM2 := hide ((unhide HM1).bel hHeld)
      have HBI2 := hide (blk_below (unhide HBI) hHeld)
      have HB2 := hide ((unhide HB1).trans (hHeld.mono (by have := (unhide HB1).size; omega)))
      have hbw2 := blk_cell (unhide HBI2)
      clear hHeld hwb hwm hwt hbw hgw
      go_wp2
      refine wp_region_noPanic ?_
      refine wp_region_held_drew (S := fun wx => wx.heap[gm]? = some (.cells #[.slice (some ⟨g1, 0, none⟩) 8 8, .slice (some ⟨g2, 0, none⟩) 64 64, .slice (some ⟨g3, 0, none⟩) 8 8] 107 (0, 0)) ∧ wx.heap[w.heap.size]? = some (.cells #[.int .u8 80, .int .i64 q, .int .i64 b, .int .i64 k, .int .i64 n] 95 (0, 0))) (by kernel_rfl) ⟨(unhide HM2).box, unhide HBI2⟩ (fun hHeld => ?_)
      have HM3 := hide ((unhide HM2).bel (Below.refl _ _).drew)
      have hrc := (unhide HM3).bit hbl
      have hfr := (unhide HM3).bits.frozenAt (b + i)
      have hst := (unhide HM3).setBit (b + i) (x0.testBit (k + i))
      rw [test_toNat] at hst
      have HST := hide hst
      have hS9 := And.intro hst.box (blk_set_other (j := b + i) (.int .i64 (bitN x0 (k + i) : Int)) hHeld.2 hne)
      have HB9 := hide ((unhide HB2).drew.setCell (p := ⟨g2, b + i, none⟩) (unhide HRM).l2.1 (.int .i64 (bitN x0 (k + i) : Int)))
      have HBI9 := hide hS9.2
      clear hst
      refine wpAnyH_take (i := 0) (v := ?_) (at_list rfl) (by kernel_rfl) (by kernel_rfl) (by kernel_rfl) (fun _ _ _ h => h) (Or.inl ⟨by rfl, ?_⟩) (by assumption) ?_
      rotate_left
      · intro w hSw; (try dsimp only at hSw); first | (go_simp; done) | (go_simp; with_reducible rfl)
      try simp only [Act.put]
      try simp only [List.setIfInBounds_toArray]
      try simp only [List.set_cons_succ]
      try simp only [List.set_cons_zero]
      refine wpAnyH_take (i := 1) (v := ?_) (at_list rfl) (by kernel_rfl) (by kernel_rfl) (by kernel_rfl) (fun _ _ _ h => h) (Or.inl ⟨by rfl, ?_⟩) (by assumption) ?_
      rotate_left
      · intro w hSw; (try dsimp only at hSw); first | (go_simp; done) | (go_simp; with_reducible rfl)
      try simp only [Act.put]
      try simp only [List.setIfInBounds_toArray]
      try simp only [List.set_cons_succ]
      try simp only [List.set_cons_zero]
      refine wpAnyH_take (i := 2) (v := ?_) (at_list rfl) (by kernel_rfl) (by kernel_rfl) (by kernel_rfl) (fun _ _ _ h => h) (Or.inl ⟨by rfl, ?_⟩) (by assumption) ?_
      rotate_left
      · intro w hSw; (try dsimp only at hSw); first | (go_simp; done) | (go_simp; with_reducible rfl)
      try simp only [Act.put]
      try simp only [List.setIfInBounds_toArray]
      try simp only [List.set_cons_succ]
      try simp only [List.set_cons_zero]
      refine wpAnyH_take (i := 3) (v := ?_) (at_list rfl) (by kernel_rfl) (by kernel_rfl) (by kernel_rfl) (fun _ _ _ h => h) (Or.inl ⟨by rfl, ?_⟩) (by assumption) ?_
      rotate_left
      · intro w hSw; (try dsimp only at hSw); first | (go_simp; done) | (go_simp; with_reducible rfl)
      try simp only [Act.put]
      try simp only [List.setIfInBounds_toArray]
      try simp only [List.set_cons_succ]
      try simp only [List.set_cons_zero]
      refine wpAnyH_take (i := 4) (v := ?_) (at_list rfl) (by kernel_rfl) (by kernel_rfl) (by kernel_rfl) (fun _ _ _ h => h) (Or.inl ⟨by rfl, ?_⟩) (by assumption) ?_
      rotate_left
      · intro w hSw; (try dsimp only at hSw); first | (go_simp; done) | (go_simp; with_reducible rfl)
      try simp only [Act.put]
      try simp only [List.setIfInBounds_toArray]
      try simp only [List.set_cons_succ]
      try simp only [List.set_cons_zero]
      refine wpAnyH_take (i := 5) (v := ?_) (at_list rfl) (by kernel_rfl) (by kernel_rfl) (by kernel_rfl) (fun _ _ _ h => h) (Or.inl ⟨by rfl, ?_⟩) (by assumption) ?_
      rotate_left
      · intro w hSw; (try dsimp only at hSw); first | (go_simp; done) | (go_simp; with_reducible rfl)
      try simp only [Act.put]
      try simp only [List.setIfInBounds_toArray]
      try simp only [List.set_cons_succ]
      try simp only [List.set_cons_zero]
      refine wpAnyH_take (i := 6) (v := ?_) (at_list rfl) (by kernel_rfl) (by kernel_rfl) (by kernel_rfl) (fun _ _ _ h => h) (Or.inl ⟨by rfl, ?_⟩) (by assumption) ?_
      rotate_left
      · intro w hSw; (try dsimp only at hSw); first | (go_simp; done) | (go_simp; with_reducible rfl)
      try simp only [Act.put]
      try simp only [List.setIfInBounds_toArray]
      try simp only [List.set_cons_succ]
      try simp only [List.set_cons_zero]
      refine wpAnyH_take (i := 7) (v := ?_) (at_list rfl) (by kernel_rfl) (by kernel_rfl) (by kernel_rfl) (fun _ _ _ h => h) (Or.inl ⟨by rfl, ?_⟩) (by assumption) ?_
      rotate_left
      · intro w hSw; (try dsimp only at hSw); first | (go_simp; done) | (go_simp; with_reducible rfl)
      try simp only [Act.put]
      try simp only [List.setIfInBounds_toArray]
      try simp only [List.set_cons_succ]
      try simp only [List.set_cons_zero]
      refine wpAnyH_take (i := 8) (v := ?_) (at_list rfl) (by kernel_rfl) (by kernel_rfl) (by kernel_rfl) (fun _ _ _ h => h) (Or.inl ⟨by rfl, ?_⟩) (by assumption) ?_
      rotate_left
      · intro w hSw; (try dsimp only at hSw); first | (go_simp; done) | (go_simp; with_reducible rfl)
      try simp only [Act.put]
      try simp only [List.setIfInBounds_toArray]
      try simp only [List.set_cons_succ]
      try simp only [List.set_cons_zero]
      refine wpAnyH_take (i := 9) (v := ?_) (at_list rfl) (by kernel_rfl) (by kernel_rfl) (by kernel_rfl) (fun _ _ _ h => h) (Or.inl ⟨by rfl, ?_⟩) (by assumption) ?_
      rotate_left
      · intro w hSw; (try dsimp only at hSw); first | (go_simp; done) | (go_simp; with_reducible rfl)
      try simp only [Act.put]
      try simp only [List.setIfInBounds_toArray]
      try simp only [List.set_cons_succ]
      try simp only [List.set_cons_zero]
      refine wpAnyH_ready (rs := [10]) (by kernel_rfl) (by simp) ?_
      refine AllReadyH.cons (at_list rfl) (fun K hK => ?_) AllReadyH.nil
      go_simp
      refine hK.out _ _ (hS9) (fun hHeld => ?_)
      clear hK K
      try simp only [Act.put]
      try simp only [List.setIfInBounds_toArray]
      try simp only [List.set_cons_succ]
      try simp only [List.set_cons_zero]
      refine wpAnyH_done (by kernel_rfl) ?_ _
      refine NoPanic.normal ?_
      clear hdm hdb hbw2
      go_wp2
      go_roundw
      case rel => exact ⟨i + 1, by omega, by go_num, rfl, by rw [unhide HNX]; exact unhide HST, unhide HBI9, unhide HB9⟩
      case measure => simp [intOf]; omega
    · have hin : i = n := by omega
      subst hin
      rw [unhide HX0] at HM1
      have hlt' : ¬ (i : Int) < (i : Int) := by omega
      go_wp2
      go_end0
      exact ⟨rfl, unhide HM1, unhide HB1⟩

end Go.Proofs.Ytljodhcfimklkaa

namespace Go.Proofs.Ytljodhcfimklkaa
open Go.RowKit

theorem rFitsB_any (v ln : Int) (sg : Bool) (w : World) (h0 : 1 ≤ ln) (h1 : ln ≤ 32) :
    Calls Try.prog 45 #[.int .i64 v, .int .i64 ln, .bool sg] w fun e w' => e = .returned (.bool (fitsB (if sg then 115 else 117) ln v)) ∧ w = w' := by
  cases sg
  · refine (rFits_any v ln 117 w h0 h1 (.inl rfl)).mono ?_
    rintro e w' ⟨rfl, rfl⟩
    exact ⟨rfl, rfl⟩
  · refine (rFits_any v ln 115 w h0 h1 (.inr rfl)).mono ?_
    rintro e w' ⟨rfl, rfl⟩
    exact ⟨rfl, rfl⟩

set_option maxRecDepth 100000 in
set_option maxHeartbeats 4000000 in
theorem rRun_any (B gm g1 g2 g3 : Nat) (L : List Ins) (s : St) (w : World) (hm : RM w B gm g1 g2 g3 s) (hB : B ≤ w.heap.size) (hf : Fine L) (hl : L.length ≤ 96) :
    Calls Try.prog 58 #[.pointer (some ⟨gm, 0, none⟩), .string (codeB L)] w fun e w' => e = .returned (.tuple #[.int .i64 (runL L s).2.1, .int .i64 (runL L s).2.2]) ∧ RM w' B gm g1 g2 g3 (runL L s).1 ∧ Below B w w' := by
  have HM := hide hm
  have HF := hide hf
  have hsz := codeB_size L
  have hl1 := hm.l1.1
  have hl2 := hm.l2.1
  have hl3 := hm.l3.1
  clear hm hf
  go_enter Try.func58, Try.ntmps58
  go_wp2
  go_loopw [7] (fun i wr => ∃ (a : Nat) (S : St), i = .int .i64 a ∧ a ≤ L.length ∧ RM wr B gm g1 g2 g3 S ∧ Below B w wr ∧ runL (L.drop a) S = runL L s) (fun i _ => L.length - (intOf i).toNat)
  case atStart => exact ⟨0, s, rfl, by omega, unhide HM, Below.refl _ _, rfl⟩
  case round =>
    obtain ⟨a, S, rfl, ha, hma, hbw, hrun⟩ := hrel
    have HMA := hide hma
    have HBW := hide hbw
    have HRUN := hide hrun
    clear hma hbw hrun
    by_cases hlt : a < L.length
    · obtain ⟨x, HX⟩ : ∃ x, Hid (x = inAt L a) := ⟨_, hide rfl⟩
      obtain ⟨hbyt, hkn⟩ := unhide HF a x (by rw [unhide HX]; exact inAt_some L a hlt)
      have HIX := hide (show insAt (codeB L) a = x from insAt_code (by rw [unhide HX]; exact inAt_some L a hlt) hbyt)
      rw [drop_inAt L a hlt, ← unhide HX, runL_cons] at HRUN
      have hi1 : (a : Int) < (L.length : Int) := by omega
      go_wp2_with fail
      refine (rAt_any (codeB L) a _ (by omega) (by omega)).mono ?_
      rintro e w1 ⟨rfl, hb1⟩
      rw [unhide HIX]
      have HM1 := hide ((unhide HMA).bel hb1)
      have HB1 := hide ((unhide HBW).trans (hb1.mono (by have := (unhide HBW).size; omega)))
      obtain ⟨op, r, b, k, n⟩ := x
      have HKN := hide hkn
      have HBY := hide hbyt
      have hr7 := known_r hkn
      have hop := known_op hkn
      simp only at hr7 hop
      have hr0 : 0 ≤ r := hbyt.r0
      have hb0 : 0 ≤ b := hbyt.b0
      have hk0 : 0 ≤ k := hbyt.k0
      have hn0 : 0 ≤ n := hbyt.n0
      have hn255 : n ≤ 255 := hbyt.n1
      simp only
      clear hkn hbyt hb1 HMA HBW
      obtain ⟨q, rfl⟩ : ∃ q : Nat, r = q := ⟨r.toNat, by omega⟩
      obtain ⟨b, rfl⟩ : ∃ q : Nat, b = q := ⟨b.toNat, by omega⟩
      obtain ⟨k, rfl⟩ : ∃ q : Nat, k = q := ⟨k.toNat, by omega⟩
      obtain ⟨n, rfl⟩ : ∃ q : Nat, n = q := ⟨n.toNat, by omega⟩
      have hq : q < 8 := by omega
      have hq0 : (0 : Int) ≤ (q : Int) := by omega
      have hq8 : (q : Int) < 8 := by omega
      have HW2 := hide (show (w1.alloc (.cells #[.int .u8 op, .int .i64 q, .int .i64 b, .int .i64 k, .int .i64 n] 95)).heap[w1.heap.size]? = some (.cells #[.int .u8 op, .int .i64 q, .int .i64 b, .int .i64 k, .int .i64 n] 95 (0, 0)) from blk_new _ _)
      have HM2 := hide ((unhide HM1).bel ((Below.refl _ _).alloc (Nat.le_refl _) (.cells #[.int .u8 op, .int .i64 q, .int .i64 b, .int .i64 k, .int .i64 n] 95)))
      have HB2 := hide ((unhide HB1).alloc (by have := (unhide HB1).size; omega) (.cells #[.int .u8 op, .int .i64 q, .int .i64 b, .int .i64 k, .int .i64 n] 95))
      have hs1 : g1 ≠ w1.heap.size := by have := (unhide HM1).l1; omega
      have hs2 : g2 ≠ w1.heap.size := by have := (unhide HM1).l2; omega
      have hs3 : g3 ≠ w1.heap.size := by have := (unhide HM1).l3; omega
      have hd := fun (wx : World) (h : wx.heap[gm]? = some (.cells #[.slice (some ⟨g1, 0, none⟩) 8 8, .slice (some ⟨g2, 0, none⟩) 64 64, .slice (some ⟨g3, 0, none⟩) 8 8] 107 (0, 0)) ∧ wx.heap[w1.heap.size]? = some (.cells #[.int .u8 op, .int .i64 q, .int .i64 b, .int .i64 k, .int .i64 n] 95 (0, 0))) => blk_cell h.2
      have hdm := fun (wx : World) (h : wx.heap[gm]? = some (.cells #[.slice (some ⟨g1, 0, none⟩) 8 8, .slice (some ⟨g2, 0, none⟩) 64 64, .slice (some ⟨g3, 0, none⟩) 8 8] 107 (0, 0)) ∧ wx.heap[w1.heap.size]? = some (.cells #[.int .u8 op, .int .i64 q, .int .i64 b, .int .i64 k, .int .i64 n] 95 (0, 0))) => blk_cell h.1
      rcases hop with rfl | rfl | rfl | rfl | rfl | rfl
      · obtain ⟨n1, b1, h8, h32⟩ := known_move (unhide HKN) (.inl rfl)
        simp only at n1 b1 h8 h32
        have HR := hide (show runL (L.drop (a + 1)) { S with reg := upd S.reg q (putTo (low (S.reg q)) S.N k b n : Nat) } = runL L s by have := unhide HRUN; rw [act_get] at this; simpa using this)
        clear hd hdm
        go_wp2_with fail
        refine (rMoveG_any B gm g1 g2 g3 S q b k n _ (unhide HM2) (by have := (unhide HB2).size; omega) hq (by omega) (by omega)).mono ?_
        rintro e w3 ⟨rfl, hm3, hb3⟩
        have HM3 := hide hm3
        have HB3 := hide ((unhide HB2).trans hb3)
        clear hm3 hb3
        go_wp2
        go_roundw
        case rel => exact ⟨a + 1, _, by go_num, by omega, unhide HM3, unhide HB3, unhide HR⟩
        case measure => simp [intOf]; omega
      · obtain ⟨n1, b1, h8, h32⟩ := known_move (unhide HKN) (.inr rfl)
        simp only at n1 b1 h8 h32
        have HR := hide (show runL (L.drop (a + 1)) { S with N := putTo S.N (low (S.reg q)) b k n } = runL L s by have := unhide HRUN; rw [act_put] at this; simpa using this)
        clear hd hdm
        go_wp2_with fail
        refine (rMoveP_any B gm g1 g2 g3 S q b k n _ (unhide HM2) (by have := (unhide HB2).size; omega) hq (by omega) (by omega)).mono ?_
        rintro e w3 ⟨rfl, hm3, hb3⟩
        have HM3 := hide hm3
        have HB3 := hide ((unhide HB2).trans hb3)
        clear hm3 hb3
        go_wp2
        go_roundw
        case rel => exact ⟨a + 1, _, by go_num, by omega, unhide HM3, unhide HB3, unhide HR⟩
        case measure => simp [intOf]; omega
      · obtain ⟨n1, h32⟩ := known_x (unhide HKN) rfl
        simp only at n1 h32
        have HR := hide (show runL (L.drop (a + 1)) { S with reg := upd S.reg q (extV (S.reg q) n) } = runL L s by have := unhide HRUN; rw [act_x] at this; simpa using this)
        have hp := pow_half (n : Int) n1
        have hp2 := pow_half2 (n : Int)
        rw [Int.toNat_natCast] at hp hp2
        have hl := half_pos (n : Int)
        have hu := half_le (n : Int) h32
        have hm0 : 0 ≤ S.reg q % (2 * half n) := Int.emod_nonneg _ (by omega)
        have hm1 : S.reg q % (2 * half n) < 2 * half n := Int.emod_lt_of_pos _ (by omega)
        have HE := hide (show extV (S.reg q) n = if half n ≤ S.reg q % (2 * half n) then S.reg q % (2 * half n) - 2 * half n else S.reg q % (2 * half n) from rfl)
        obtain ⟨hh, HH⟩ : ∃ x, Hid (x = half (n : Int)) := ⟨_, hide rfl⟩
        rw [← unhide HH] at hp hp2 hl hu hm0 hm1 HE
        have hw1 : IntKind.i64.wrap (2 * hh) = 2 * hh := by rw [IntKind.wrap_i64]; omega
        have hw2 : IntKind.i64.wrap hh = hh := by rw [IntKind.wrap_i64]; omega
        go_wp2
        generalize w1.alloc (.cells #[.int .u8 88, .int .i64 q, .int .i64 b, .int .i64 k, .int .i64 n] 95) = w2 at *
        generalize w1.heap.size = sb at *
        have hrg := fun (wx : World) (h : Below w2.heap.size w2 wx) => ((unhide HM2).bel h).reg hq
        have hbx := fun (wx : World) (h : Below w2.heap.size w2 wx) => blk_cell (blk_below (unhide HW2) h)
        have hbm := fun (wx : World) (h : Below w2.heap.size w2 wx) => blk_cell ((unhide HM2).bel h).box
        have hbx2 := hbx _ (Below.refl _ _)
        refine wp_region_noPanic ?_
        refine wp_region_held_drew (S := fun wx => Below w2.heap.size w2 wx) (by kernel_rfl) (Below.refl _ _).drew (fun hHeld => ?_)
        refine wpAnyH_take (i := 0) (v := ?_) (at_list rfl) (by kernel_rfl) (by kernel_rfl) (by kernel_rfl) (fun _ _ _ h => h) (Or.inl ⟨by rfl, ?_⟩) (by assumption) ?_
        rotate_left
        · intro w hSw; (try dsimp only at hSw); first | (go_simp; done) | (go_simp; with_reducible rfl)
        try simp only [Act.put]
        try simp only [List.setIfInBounds_toArray]
        try simp only [List.set_cons_succ]
        try simp only [List.set_cons_zero]
        refine wpAnyH_take (i := 1) (v := ?_) (at_list rfl) (by kernel_rfl) (by kernel_rfl) (by kernel_rfl) (fun _ _ _ h => h) (Or.inl ⟨by rfl, ?_⟩) (by assumption) ?_
        rotate_left
        · intro w hSw; (try dsimp only at hSw); first | (go_simp; done) | (go_simp; with_reducible rfl)
        try simp only [Act.put]
        try simp only [List.setIfInBounds_toArray]
        try simp only [List.set_cons_succ]
        try simp only [List.set_cons_zero]
        refine wpAnyH_take (i := 2) (v := ?_) (at_list rfl) (by kernel_rfl) (by kernel_rfl) (by kernel_rfl) (fun _ _ _ h => h) (Or.inl ⟨by rfl, ?_⟩) (by assumption) ?_
        rotate_left
        · intro w hSw; (try dsimp only at hSw); first | (go_simp; done) | (go_simp; with_reducible rfl)
        try simp only [Act.put]
        try simp only [List.setIfInBounds_toArray]
        try simp only [List.set_cons_succ]
        try simp only [List.set_cons_zero]
        refine wpAnyH_take (i := 3) (v := ?_) (at_list rfl) (by kernel_rfl) (by kernel_rfl) (by kernel_rfl) (fun _ _ _ h => h) (Or.inl ⟨by rfl, ?_⟩) (by assumption) ?_
        rotate_left
        · intro w hSw; (try dsimp only at hSw); first | (go_simp; done) | (go_simp; with_reducible rfl)
        try simp only [Act.put]
        try simp only [List.setIfInBounds_toArray]
        try simp only [List.set_cons_succ]
        try simp only [List.set_cons_zero]
        refine wpAnyH_take (i := 4) (v := ?_) (at_list rfl) (by kernel_rfl) (by kernel_rfl) (by kernel_rfl) (fun _ _ _ h => h) (Or.inl ⟨by rfl, ?_⟩) (by assumption) ?_
        rotate_left
        · intro w hSw; (try dsimp only at hSw); first | (go_simp; done) | (go_simp; with_reducible rfl)
        try simp only [Act.put]
        try simp only [List.setIfInBounds_toArray]
        try simp only [List.set_cons_succ]
        try simp only [List.set_cons_zero]
        refine wpAnyH_take (i := 5) (v := ?_) (at_list rfl) (by kernel_rfl) (by kernel_rfl) (by kernel_rfl) (fun _ _ _ h => h) (Or.inl ⟨by rfl, ?_⟩) (by assumption) ?_
        rotate_left
        · intro w hSw; (try dsimp only at hSw); first | (go_simp; done) | (go_simp; with_reducible rfl)
        try simp only [Act.put]
        try simp only [List.setIfInBounds_toArray]
        try simp only [List.set_cons_succ]
        try simp only [List.set_cons_zero]
        refine wpAnyH_take (i := 6) (v := ?_) (at_list rfl) (by kernel_rfl) (by kernel_rfl) (by kernel_rfl) (fun _ _ _ h => h) (Or.inl ⟨by rfl, ?_⟩) (by assumption) ?_
        rotate_left
        · intro w hSw; (try dsimp only at hSw); first | (go_simp; done) | (go_simp; with_reducible rfl)
        try simp only [Act.put]
        try simp only [List.setIfInBounds_toArray]
        try simp only [List.set_cons_succ]
        try simp only [List.set_cons_zero]
        refine wpAnyH_take (i := 7) (v := ?_) (at_list rfl) (by kernel_rfl) (by kernel_rfl) (by kernel_rfl) (fun _ _ _ h => h) (Or.inl ⟨by rfl, ?_⟩) (by assumption) ?_
        rotate_left
        · intro w hSw; (try dsimp only at hSw); first | (go_simp; done) | (go_simp; with_reducible rfl)
        try simp only [Act.put]
        try simp only [List.setIfInBounds_toArray]
        try simp only [List.set_cons_succ]
        try simp only [List.set_cons_zero]
        refine wpAnyH_take (i := 8) (v := ?_) (at_list rfl) (by kernel_rfl) (by kernel_rfl) (by kernel_rfl) (fun _ _ _ h => h) (Or.inl ⟨by rfl, ?_⟩) (by assumption) ?_
        rotate_left
        · intro w hSw; (try dsimp only at hSw); first | (go_simp; done) | (go_simp; with_reducible rfl)
        try simp only [Act.put]
        try simp only [List.setIfInBounds_toArray]
        try simp only [List.set_cons_succ]
        try simp only [List.set_cons_zero]
        refine wpAnyH_take (i := 9) (v := ?_) (at_list rfl) (by kernel_rfl) (by kernel_rfl) (by kernel_rfl) (fun _ _ _ h => h) (Or.inl ⟨by rfl, ?_⟩) (by assumption) ?_
        rotate_left
        · intro w hSw; (try dsimp only at hSw); first | (go_simp; done) | (go_simp; with_reducible rfl)
        try simp only [Act.put]
        try simp only [List.setIfInBounds_toArray]
        try simp only [List.set_cons_succ]
        try simp only [List.set_cons_zero]
        refine wpAnyH_take (i := 10) (v := ?_) (at_list rfl) (by kernel_rfl) (by kernel_rfl) (by kernel_rfl) (fun _ _ _ h => h) (Or.inl ⟨by rfl, ?_⟩) (by assumption) ?_
        rotate_left
        · intro w hSw; (try dsimp only at hSw); first | (go_simp; done) | (go_simp; with_reducible rfl)
        try simp only [Act.put]
        try simp only [List.setIfInBounds_toArray]
        try simp only [List.set_cons_succ]
        try simp only [List.set_cons_zero]
        refine wpAnyH_ready (rs := [11]) (by kernel_rfl) (by simp) ?_
        refine AllReadyH.cons (at_list rfl) (fun K hK => ?_) AllReadyH.nil
        go_simp
        refine (mod_any _ _ _ (by omega) (by omega)).mono ?_; rintro e w' ⟨rfl, rfl⟩; dsimp only
        refine hK.out _ _ (hHeld) (fun hHeld => ?_)
        clear hK K
        try simp only [Act.put]
        try simp only [List.setIfInBounds_toArray]
        try simp only [List.set_cons_succ]
        try simp only [List.set_cons_zero]
        refine wpAnyH_take (i := 12) (v := ?_) (at_list rfl) (by kernel_rfl) (by kernel_rfl) (by kernel_rfl) (fun _ _ _ h => h) (Or.inl ⟨by rfl, ?_⟩) (by assumption) ?_
        rotate_left
        · intro w hSw; (try dsimp only at hSw); first | (go_simp; done) | (go_simp; with_reducible rfl)
        try simp only [Act.put]
        try simp only [List.setIfInBounds_toArray]
        try simp only [List.set_cons_succ]
        try simp only [List.set_cons_zero]
        refine wpAnyH_done (by kernel_rfl) ?_ _
        refine NoPanic.normal ?_
        have HM3 := hide ((unhide HM2).bel hHeld)
        have HW3 := hide (blk_below (unhide HW2) hHeld)
        have HB3 := hide ((unhide HB2).trans (hHeld.mono (by have := (unhide HB2).size; omega)))
        have hbx3 := hbx _ hHeld
        generalize w2.drew = w3 at *
        clear hbx2 hbx hbm hrg hHeld HM2 HW2 HB2
        generalize S.reg q % (2 * hh) = y at *
        by_cases hge : hh ≤ y
        · have HEV := hide (show extV (S.reg q) n = y - 2 * hh by rw [unhide HE, if_pos hge])
          go_wp2
          refine wp_region_noPanic ?_
          refine wp_region_held_drew (S := fun wx => (wx.heap[gm]? = some (.cells #[.slice (some ⟨g1, 0, none⟩) 8 8, .slice (some ⟨g2, 0, none⟩) 64 64, .slice (some ⟨g3, 0, none⟩) 8 8] 107 (0, 0)) ∧ wx.heap[sb]? = some (.cells #[.int .u8 88, .int .i64 q, .int .i64 b, .int .i64 k, .int .i64 n] 95 (0, 0)))) (by kernel_rfl) ⟨(unhide HM3).box, unhide HW3⟩ (fun hHeld => ?_)
          have HM4 := hide ((unhide HM3).bel (Below.refl w3.heap.size w3).drew)
          have hrc := (unhide HM4).reg hq
          have hfr := (unhide HM4).regs.frozenAt q
          have hS9 := And.intro ((unhide HM4).setReg q (y - 2 * hh)).box (blk_set_other (j := q) (.int .i64 (y - 2 * hh)) hHeld.2 hs1.symm)
          have HB9 := hide ((unhide HB3).drew.setCell (p := ⟨g1, q, none⟩) hl1 (.int .i64 (y - 2 * hh)))
          clear hbx3
          refine wpAnyH_take (i := 0) (v := ?_) (at_list rfl) (by kernel_rfl) (by kernel_rfl) (by kernel_rfl) (fun _ _ _ h => h) (Or.inl ⟨by rfl, ?_⟩) (by assumption) ?_
          rotate_left
          · intro w hSw; (try dsimp only at hSw); first | (go_simp; done) | (go_simp; with_reducible rfl)
          try simp only [Act.put]
          try simp only [List.setIfInBounds_toArray]
          try simp only [List.set_cons_succ]
          try simp only [List.set_cons_zero]
          refine wpAnyH_take (i := 1) (v := ?_) (at_list rfl) (by kernel_rfl) (by kernel_rfl) (by kernel_rfl) (fun _ _ _ h => h) (Or.inl ⟨by rfl, ?_⟩) (by assumption) ?_
          rotate_left
          · intro w hSw; (try dsimp only at hSw); first | (go_simp; done) | (go_simp; with_reducible rfl)
          try simp only [Act.put]
          try simp only [List.setIfInBounds_toArray]
          try simp only [List.set_cons_succ]
          try simp only [List.set_cons_zero]
          refine wpAnyH_take (i := 2) (v := ?_) (at_list rfl) (by kernel_rfl) (by kernel_rfl) (by kernel_rfl) (fun _ _ _ h => h) (Or.inl ⟨by rfl, ?_⟩) (by assumption) ?_
          rotate_left
          · intro w hSw; (try dsimp only at hSw); first | (go_simp; done) | (go_simp; with_reducible rfl)
          try simp only [Act.put]
          try simp only [List.setIfInBounds_toArray]
          try simp only [List.set_cons_succ]
          try simp only [List.set_cons_zero]
          refine wpAnyH_take (i := 3) (v := ?_) (at_list rfl) (by kernel_rfl) (by kernel_rfl) (by kernel_rfl) (fun _ _ _ h => h) (Or.inl ⟨by rfl, ?_⟩) (by assumption) ?_
          rotate_left
          · intro w hSw; (try dsimp only at hSw); first | (go_simp; done) | (go_simp; with_reducible rfl)
          try simp only [Act.put]
          try simp only [List.setIfInBounds_toArray]
          try simp only [List.set_cons_succ]
          try simp only [List.set_cons_zero]
          refine wpAnyH_take (i := 4) (v := ?_) (at_list rfl) (by kernel_rfl) (by kernel_rfl) (by kernel_rfl) (fun _ _ _ h => h) (Or.inl ⟨by rfl, ?_⟩) (by assumption) ?_
          rotate_left
          · intro w hSw; (try dsimp only at hSw); first | (go_simp; done) | (go_simp; with_reducible rfl)
          try simp only [Act.put]
          try simp only [List.setIfInBounds_toArray]
          try simp only [List.set_cons_succ]
          try simp only [List.set_cons_zero]
          refine wpAnyH_take (i := 5) (v := ?_) (at_list rfl) (by kernel_rfl) (by kernel_rfl) (by kernel_rfl) (fun _ _ _ h => h) (Or.inl ⟨by rfl, ?_⟩) (by assumption) ?_
          rotate_left
          · intro w hSw; (try dsimp only at hSw); first | (go_simp; done) | (go_simp; with_reducible rfl)
          try simp only [Act.put]
          try simp only [List.setIfInBounds_toArray]
          try simp only [List.set_cons_succ]
          try simp only [List.set_cons_zero]
          refine wpAnyH_take (i := 6) (v := ?_) (at_list rfl) (by kernel_rfl) (by kernel_rfl) (by kernel_rfl) (fun _ _ _ h => h) (Or.inl ⟨by rfl, ?_⟩) (by assumption) ?_
          rotate_left
          · intro w hSw; (try dsimp only at hSw); first | (go_simp; done) | (go_simp; with_reducible rfl)
          try simp only [Act.put]
          try simp only [List.setIfInBounds_toArray]
          try simp only [List.set_cons_succ]
          try simp only [List.set_cons_zero]
          refine wpAnyH_take (i := 7) (v := ?_) (at_list rfl) (by kernel_rfl) (by kernel_rfl) (by kernel_rfl) (fun _ _ _ h => h) (Or.inl ⟨by rfl, ?_⟩) (by assumption) ?_
          rotate_left
          · intro w hSw; (try dsimp only at hSw); first | (go_simp; done) | (go_simp; with_reducible rfl)
          try simp only [Act.put]
          try simp only [List.setIfInBounds_toArray]
          try simp only [List.set_cons_succ]
          try simp only [List.set_cons_zero]
          refine wpAnyH_ready (rs := [8]) (by kernel_rfl) (by simp) ?_
          refine AllReadyH.cons (at_list rfl) (fun K hK => ?_) AllReadyH.nil
          go_simp
          refine hK.out _ _ (hS9) (fun hHeld => ?_)
          clear hK K
          try simp only [Act.put]
          try simp only [List.setIfInBounds_toArray]
          try simp only [List.set_cons_succ]
          try simp only [List.set_cons_zero]
          refine wpAnyH_done (by kernel_rfl) ?_ _
          refine NoPanic.normal ?_
          clear hd hdm
          go_wp2
          go_roundw
          case rel => exact ⟨a + 1, _, by go_num, by omega, (unhide HM4).setReg q _, unhide HB9, by rw [← unhide HEV]; exact unhide HR⟩
          case measure => simp [intOf]; omega
        · have HEV := hide (show extV (S.reg q) n = y by rw [unhide HE, if_neg hge])
          go_wp2
          refine wp_region_noPanic ?_
          refine wp_region_held_drew (S := fun wx => (wx.heap[gm]? = some (.cells #[.slice (some ⟨g1, 0, none⟩) 8 8, .slice (some ⟨g2, 0, none⟩) 64 64, .slice (some ⟨g3, 0, none⟩) 8 8] 107 (0, 0)) ∧ wx.heap[sb]? = some (.cells #[.int .u8 88, .int .i64 q, .int .i64 b, .int .i64 k, .int .i64 n] 95 (0, 0)))) (by kernel_rfl) ⟨(unhide HM3).box, unhide HW3⟩ (fun hHeld => ?_)
          have HM4 := hide ((unhide HM3).bel (Below.refl w3.heap.size w3).drew)
          have hrc := (unhide HM4).reg hq
          have hfr := (unhide HM4).regs.frozenAt q
          have hS9 := And.intro ((unhide HM4).setReg q (y)).box (blk_set_other (j := q) (.int .i64 (y)) hHeld.2 hs1.symm)
          have HB9 := hide ((unhide HB3).drew.setCell (p := ⟨g1, q, none⟩) hl1 (.int .i64 (y)))
          clear hbx3
          refine wpAnyH_take (i := 0) (v := ?_) (at_list rfl) (by kernel_rfl) (by kernel_rfl) (by kernel_rfl) (fun _ _ _ h => h) (Or.inl ⟨by rfl, ?_⟩) (by assumption) ?_
          rotate_left
          · intro w hSw; (try dsimp only at hSw); first | (go_simp; done) | (go_simp; with_reducible rfl)
          try simp only [Act.put]
          try simp only [List.setIfInBounds_toArray]
          try simp only [List.set_cons_succ]
          try simp only [List.set_cons_zero]
          refine wpAnyH_take (i := 1) (v := ?_) (at_list rfl) (by kernel_rfl) (by kernel_rfl) (by kernel_rfl) (fun _ _ _ h => h) (Or.inl ⟨by rfl, ?_⟩) (by assumption) ?_
          rotate_left
          · intro w hSw; (try dsimp only at hSw); first | (go_simp; done) | (go_simp; with_reducible rfl)
          try simp only [Act.put]
          try simp only [List.setIfInBounds_toArray]
          try simp only [List.set_cons_succ]
          try simp only [List.set_cons_zero]
          refine wpAnyH_take (i := 2) (v := ?_) (at_list rfl) (by kernel_rfl) (by kernel_rfl) (by kernel_rfl) (fun _ _ _ h => h) (Or.inl ⟨by rfl, ?_⟩) (by assumption) ?_
          rotate_left
          · intro w hSw; (try dsimp only at hSw); first | (go_simp; done) | (go_simp; with_reducible rfl)
          try simp only [Act.put]
          try simp only [List.setIfInBounds_toArray]
          try simp only [List.set_cons_succ]
          try simp only [List.set_cons_zero]
          refine wpAnyH_take (i := 3) (v := ?_) (at_list rfl) (by kernel_rfl) (by kernel_rfl) (by kernel_rfl) (fun _ _ _ h => h) (Or.inl ⟨by rfl, ?_⟩) (by assumption) ?_
          rotate_left
          · intro w hSw; (try dsimp only at hSw); first | (go_simp; done) | (go_simp; with_reducible rfl)
          try simp only [Act.put]
          try simp only [List.setIfInBounds_toArray]
          try simp only [List.set_cons_succ]
          try simp only [List.set_cons_zero]
          refine wpAnyH_take (i := 4) (v := ?_) (at_list rfl) (by kernel_rfl) (by kernel_rfl) (by kernel_rfl) (fun _ _ _ h => h) (Or.inl ⟨by rfl, ?_⟩) (by assumption) ?_
          rotate_left
          · intro w hSw; (try dsimp only at hSw); first | (go_simp; done) | (go_simp; with_reducible rfl)
          try simp only [Act.put]
          try simp only [List.setIfInBounds_toArray]
          try simp only [List.set_cons_succ]
          try simp only [List.set_cons_zero]
          refine wpAnyH_take (i := 5) (v := ?_) (at_list rfl) (by kernel_rfl) (by kernel_rfl) (by kernel_rfl) (fun _ _ _ h => h) (Or.inl ⟨by rfl, ?_⟩) (by assumption) ?_
          rotate_left
          · intro w hSw; (try dsimp only at hSw); first | (go_simp; done) | (go_simp; with_reducible rfl)
          try simp only [Act.put]
          try simp only [List.setIfInBounds_toArray]
          try simp only [List.set_cons_succ]
          try simp only [List.set_cons_zero]
          refine wpAnyH_take (i := 6) (v := ?_) (at_list rfl) (by kernel_rfl) (by kernel_rfl) (by kernel_rfl) (fun _ _ _ h => h) (Or.inl ⟨by rfl, ?_⟩) (by assumption) ?_
          rotate_left
          · intro w hSw; (try dsimp only at hSw); first | (go_simp; done) | (go_simp; with_reducible rfl)
          try simp only [Act.put]
          try simp only [List.setIfInBounds_toArray]
          try simp only [List.set_cons_succ]
          try simp only [List.set_cons_zero]
          refine wpAnyH_take (i := 7) (v := ?_) (at_list rfl) (by kernel_rfl) (by kernel_rfl) (by kernel_rfl) (fun _ _ _ h => h) (Or.inl ⟨by rfl, ?_⟩) (by assumption) ?_
          rotate_left
          · intro w hSw; (try dsimp only at hSw); first | (go_simp; done) | (go_simp; with_reducible rfl)
          try simp only [Act.put]
          try simp only [List.setIfInBounds_toArray]
          try simp only [List.set_cons_succ]
          try simp only [List.set_cons_zero]
          refine wpAnyH_ready (rs := [8]) (by kernel_rfl) (by simp) ?_
          refine AllReadyH.cons (at_list rfl) (fun K hK => ?_) AllReadyH.nil
          go_simp
          refine hK.out _ _ (hS9) (fun hHeld => ?_)
          clear hK K
          try simp only [Act.put]
          try simp only [List.setIfInBounds_toArray]
          try simp only [List.set_cons_succ]
          try simp only [List.set_cons_zero]
          refine wpAnyH_done (by kernel_rfl) ?_ _
          refine NoPanic.normal ?_
          clear hd hdm
          go_wp2
          go_roundw
          case rel => exact ⟨a + 1, _, by go_num, by omega, (unhide HM4).setReg q _, unhide HB9, by rw [← unhide HEV]; exact unhide HR⟩
          case measure => simp [intOf]; omega
      · obtain ⟨n1, h32, k1⟩ := known_range (unhide HKN) rfl
        simp only at n1 h32 k1
        have hact := act_range (r := (q : Int)) (b := (b : Int)) (k := (k : Int)) (n := (n : Int)) S
        rw [Int.toNat_natCast] at hact
        have HFB := hide (show fitsB (if ((k : Int) == 1) = true then 115 else 117) n (S.reg q) = fitsB (if (k : Int) = 1 then 115 else 117) n (S.reg q) by simp)
        go_wp2
        generalize w1.alloc (.cells #[.int .u8 82, .int .i64 q, .int .i64 b, .int .i64 k, .int .i64 n] 95) = w2 at *
        generalize w1.heap.size = sb at *
        have hrg := fun (wx : World) (h : Below w2.heap.size w2 wx) => ((unhide HM2).bel h).reg hq
        have hbx := fun (wx : World) (h : Below w2.heap.size w2 wx) => blk_cell (blk_below (unhide HW2) h)
        have hbm := fun (wx : World) (h : Below w2.heap.size w2 wx) => blk_cell ((unhide HM2).bel h).box
        have hbx2 := hbx _ (Below.refl _ _)
        refine wp_region_noPanic ?_
        refine wp_region_held_drew (S := fun wx => Below w2.heap.size w2 wx) (by kernel_rfl) (Below.refl _ _).drew (fun hHeld => ?_)
        refine wpAnyH_take (i := 0) (v := ?_) (at_list rfl) (by kernel_rfl) (by kernel_rfl) (by kernel_rfl) (fun _ _ _ h => h) (Or.inl ⟨by rfl, ?_⟩) (by assumption) ?_
        rotate_left
        · intro w hSw; (try dsimp only at hSw); first | (go_simp; done) | (go_simp; with_reducible rfl)
        try simp only [Act.put]
        try simp only [List.setIfInBounds_toArray]
        try simp only [List.set_cons_succ]
        try simp only [List.set_cons_zero]
        refine wpAnyH_take (i := 1) (v := ?_) (at_list rfl) (by kernel_rfl) (by kernel_rfl) (by kernel_rfl) (fun _ _ _ h => h) (Or.inl ⟨by rfl, ?_⟩) (by assumption) ?_
        rotate_left
        · intro w hSw; (try dsimp only at hSw); first | (go_simp; done) | (go_simp; with_reducible rfl)
        try simp only [Act.put]
        try simp only [List.setIfInBounds_toArray]
        try simp only [List.set_cons_succ]
        try simp only [List.set_cons_zero]
        refine wpAnyH_take (i := 2) (v := ?_) (at_list rfl) (by kernel_rfl) (by kernel_rfl) (by kernel_rfl) (fun _ _ _ h => h) (Or.inl ⟨by rfl, ?_⟩) (by assumption) ?_
        rotate_left
        · intro w hSw; (try dsimp only at hSw); first | (go_simp; done) | (go_simp; with_reducible rfl)
        try simp only [Act.put]
        try simp only [List.setIfInBounds_toArray]
        try simp only [List.set_cons_succ]
        try simp only [List.set_cons_zero]
        refine wpAnyH_take (i := 3) (v := ?_) (at_list rfl) (by kernel_rfl) (by kernel_rfl) (by kernel_rfl) (fun _ _ _ h => h) (Or.inl ⟨by rfl, ?_⟩) (by assumption) ?_
        rotate_left
        · intro w hSw; (try dsimp only at hSw); first | (go_simp; done) | (go_simp; with_reducible rfl)
        try simp only [Act.put]
        try simp only [List.setIfInBounds_toArray]
        try simp only [List.set_cons_succ]
        try simp only [List.set_cons_zero]
        refine wpAnyH_take (i := 4) (v := ?_) (at_list rfl) (by kernel_rfl) (by kernel_rfl) (by kernel_rfl) (fun _ _ _ h => h) (Or.inl ⟨by rfl, ?_⟩) (by assumption) ?_
        rotate_left
        · intro w hSw; (try dsimp only at hSw); first | (go_simp; done) | (go_simp; with_reducible rfl)
        try simp only [Act.put]
        try simp only [List.setIfInBounds_toArray]
        try simp only [List.set_cons_succ]
        try simp only [List.set_cons_zero]
        refine wpAnyH_take (i := 5) (v := ?_) (at_list rfl) (by kernel_rfl) (by kernel_rfl) (by kernel_rfl) (fun _ _ _ h => h) (Or.inl ⟨by rfl, ?_⟩) (by assumption) ?_
        rotate_left
        · intro w hSw; (try dsimp only at hSw); first | (go_simp; done) | (go_simp; with_reducible rfl)
        try simp only [Act.put]
        try simp only [List.setIfInBounds_toArray]
        try simp only [List.set_cons_succ]
        try simp only [List.set_cons_zero]
        refine wpAnyH_take (i := 6) (v := ?_) (at_list rfl) (by kernel_rfl) (by kernel_rfl) (by kernel_rfl) (fun _ _ _ h => h) (Or.inl ⟨by rfl, ?_⟩) (by assumption) ?_
        rotate_left
        · intro w hSw; (try dsimp only at hSw); first | (go_simp; done) | (go_simp; with_reducible rfl)
        try simp only [Act.put]
        try simp only [List.setIfInBounds_toArray]
        try simp only [List.set_cons_succ]
        try simp only [List.set_cons_zero]
        refine wpAnyH_take (i := 7) (v := ?_) (at_list rfl) (by kernel_rfl) (by kernel_rfl) (by kernel_rfl) (fun _ _ _ h => h) (Or.inl ⟨by rfl, ?_⟩) (by assumption) ?_
        rotate_left
        · intro w hSw; (try dsimp only at hSw); first | (go_simp; done) | (go_simp; with_reducible rfl)
        try simp only [Act.put]
        try simp only [List.setIfInBounds_toArray]
        try simp only [List.set_cons_succ]
        try simp only [List.set_cons_zero]
        refine wpAnyH_take (i := 8) (v := ?_) (at_list rfl) (by kernel_rfl) (by kernel_rfl) (by kernel_rfl) (fun _ _ _ h => h) (Or.inl ⟨by rfl, ?_⟩) (by assumption) ?_
        rotate_left
        · intro w hSw; (try dsimp only at hSw); first | (go_simp; done) | (go_simp; with_reducible rfl)
        try simp only [Act.put]
        try simp only [List.setIfInBounds_toArray]
        try simp only [List.set_cons_succ]
        try simp only [List.set_cons_zero]
        refine wpAnyH_take (i := 9) (v := ?_) (at_list rfl) (by kernel_rfl) (by kernel_rfl) (by kernel_rfl) (fun _ _ _ h => h) (Or.inl ⟨by rfl, ?_⟩) (by assumption) ?_
        rotate_left
        · intro w hSw; (try dsimp only at hSw); first | (go_simp; done) | (go_simp; with_reducible rfl)
        try simp only [Act.put]
        try simp only [List.setIfInBounds_toArray]
        try simp only [List.set_cons_succ]
        try simp only [List.set_cons_zero]
        refine wpAnyH_take (i := 10) (v := ?_) (at_list rfl) (by kernel_rfl) (by kernel_rfl) (by kernel_rfl) (fun _ _ _ h => h) (Or.inl ⟨by rfl, ?_⟩) (by assumption) ?_
        rotate_left
        · intro w hSw; (try dsimp only at hSw); first | (go_simp; done) | (go_simp; with_reducible rfl)
        try simp only [Act.put]
        try simp only [List.setIfInBounds_toArray]
        try simp only [List.set_cons_succ]
        try simp only [List.set_cons_zero]
        refine wpAnyH_take (i := 11) (v := ?_) (at_list rfl) (by kernel_rfl) (by kernel_rfl) (by kernel_rfl) (fun _ _ _ h => h) (Or.inl ⟨by rfl, ?_⟩) (by assumption) ?_
        rotate_left
        · intro w hSw; (try dsimp only at hSw); first | (go_simp; done) | (go_simp; with_reducible rfl)
        try simp only [Act.put]
        try simp only [List.setIfInBounds_toArray]
        try simp only [List.set_cons_succ]
        try simp only [List.set_cons_zero]
        refine wpAnyH_take (i := 12) (v := ?_) (at_list rfl) (by kernel_rfl) (by kernel_rfl) (by kernel_rfl) (fun _ _ _ h => h) (Or.inl ⟨by rfl, ?_⟩) (by assumption) ?_
        rotate_left
        · intro w hSw; (try dsimp only at hSw); first | (go_simp; done) | (go_simp; with_reducible rfl)
        try simp only [Act.put]
        try simp only [List.setIfInBounds_toArray]
        try simp only [List.set_cons_succ]
        try simp only [List.set_cons_zero]
        refine wpAnyH_ready (rs := [13]) (by kernel_rfl) (by simp) ?_
        refine AllReadyH.cons (at_list rfl) (fun K hK => ?_) AllReadyH.nil
        go_simp
        refine (rFitsB_any _ _ _ _ n1 h32).mono ?_; rintro e w' ⟨rfl, rfl⟩; dsimp only
        refine hK.out _ _ (hHeld) (fun hHeld => ?_)
        clear hK K
        try simp only [Act.put]
        try simp only [List.setIfInBounds_toArray]
        try simp only [List.set_cons_succ]
        try simp only [List.set_cons_zero]
        refine wpAnyH_take (i := 14) (v := ?_) (at_list rfl) (by kernel_rfl) (by kernel_rfl) (by kernel_rfl) (fun _ _ _ h => h) (Or.inl ⟨by rfl, ?_⟩) (by assumption) ?_
        rotate_left
        · intro w hSw; (try dsimp only at hSw); first | (go_simp; done) | (go_simp; with_reducible rfl)
        try simp only [Act.put]
        try simp only [List.setIfInBounds_toArray]
        try simp only [List.set_cons_succ]
        try simp only [List.set_cons_zero]
        refine wpAnyH_done (by kernel_rfl) ?_ _
        refine NoPanic.normal ?_
        rw [unhide HFB]
        have HM3 := hide ((unhide HM2).bel hHeld)
        have HW3 := hide (blk_below (unhide HW2) hHeld)
        have HB3 := hide ((unhide HB2).trans (hHeld.mono (by have := (unhide HB2).size; omega)))
        generalize w2.drew = w3 at *
        clear hbx2 hbx hbm hrg hHeld HM2 HW2 HB2
        cases hfit : fitsB (if (k : Int) = 1 then 115 else 117) n (S.reg q) with
        | true =>
          have HR := hide (show runL (L.drop (a + 1)) S = runL L s by have := unhide HRUN; rw [hact, hfit] at this; simpa using this)
          clear hact hfit hd hdm
          go_wp2
          go_roundw
          case rel => exact ⟨a + 1, S, by go_num, by omega, unhide HM3, unhide HB3, unhide HR⟩
          case measure => simp [intOf]; omega
        | false =>
          have HR := hide (show (S, (9 : Int), (q : Int)) = runL L s by have := unhide HRUN; rw [hact, hfit] at this; simpa using this)
          clear hact hfit
          go_wp2
          refine wp_region_noPanic ?_
          refine wp_region_held_drew (S := fun wx => (wx.heap[gm]? = some (.cells #[.slice (some ⟨g1, 0, none⟩) 8 8, .slice (some ⟨g2, 0, none⟩) 64 64, .slice (some ⟨g3, 0, none⟩) 8 8] 107 (0, 0)) ∧ wx.heap[sb]? = some (.cells #[.int .u8 82, .int .i64 q, .int .i64 b, .int .i64 k, .int .i64 n] 95 (0, 0)))) (by kernel_rfl) ⟨(unhide HM3).box, unhide HW3⟩ (fun hHeld => ?_)
          have HM4 := hide ((unhide HM3).bel (Below.refl w3.heap.size w3).drew)
          have HB4 := hide (unhide HB3).drew
          refine wpAnyH_take (i := 0) (v := ?_) (at_list rfl) (by kernel_rfl) (by kernel_rfl) (by kernel_rfl) (fun _ _ _ h => h) (Or.inl ⟨by rfl, ?_⟩) (by assumption) ?_
          rotate_left
          · intro w hSw; (try dsimp only at hSw); first | (go_simp; done) | (go_simp; with_reducible rfl)
          try simp only [Act.put]
          try simp only [List.setIfInBounds_toArray]
          try simp only [List.set_cons_succ]
          try simp only [List.set_cons_zero]
          refine wpAnyH_take (i := 1) (v := ?_) (at_list rfl) (by kernel_rfl) (by kernel_rfl) (by kernel_rfl) (fun _ _ _ h => h) (Or.inl ⟨by rfl, ?_⟩) (by assumption) ?_
          rotate_left
          · intro w hSw; (try dsimp only at hSw); first | (go_simp; done) | (go_simp; with_reducible rfl)
          try simp only [Act.put]
          try simp only [List.setIfInBounds_toArray]
          try simp only [List.set_cons_succ]
          try simp only [List.set_cons_zero]
          refine wpAnyH_take (i := 2) (v := ?_) (at_list rfl) (by kernel_rfl) (by kernel_rfl) (by kernel_rfl) (fun _ _ _ h => h) (Or.inl ⟨by rfl, ?_⟩) (by assumption) ?_
          rotate_left
          · intro w hSw; (try dsimp only at hSw); first | (go_simp; done) | (go_simp; with_reducible rfl)
          try simp only [Act.put]
          try simp only [List.setIfInBounds_toArray]
          try simp only [List.set_cons_succ]
          try simp only [List.set_cons_zero]
          refine wpAnyH_take (i := 3) (v := ?_) (at_list rfl) (by kernel_rfl) (by kernel_rfl) (by kernel_rfl) (fun _ _ _ h => h) (Or.inl ⟨by rfl, ?_⟩) (by assumption) ?_
          rotate_left
          · intro w hSw; (try dsimp only at hSw); first | (go_simp; done) | (go_simp; with_reducible rfl)
          try simp only [Act.put]
          try simp only [List.setIfInBounds_toArray]
          try simp only [List.set_cons_succ]
          try simp only [List.set_cons_zero]
          refine wpAnyH_done (by kernel_rfl) ?_ _
          refine NoPanic.normal ?_
          clear hd hdm
          go_wp2
          go_ret2
          exact ⟨by rw [← unhide HR]; rfl, by rw [← unhide HR]; exact unhide HM4, unhide HB4⟩
      · obtain ⟨n1, hnl⟩ := known_jump (unhide HKN) rfl
        simp only at n1 hnl
        have hact := act_jump (r := (q : Int)) (b := (b : Int)) (k := (k : Int)) (n := (n : Int)) S
        rw [Int.toNat_natCast, Int.toNat_natCast] at hact
        go_wp2
        generalize w1.alloc (.cells #[.int .u8 74, .int .i64 q, .int .i64 b, .int .i64 k, .int .i64 n] 95) = w2 at *
        generalize w1.heap.size = sb at *
        have hrg := fun (wx : World) (h : Below w2.heap.size w2 wx) => ((unhide HM2).bel h).reg hq
        have hbx := fun (wx : World) (h : Below w2.heap.size w2 wx) => blk_cell (blk_below (unhide HW2) h)
        have hbm := fun (wx : World) (h : Below w2.heap.size w2 wx) => blk_cell ((unhide HM2).bel h).box
        have hbx2 := hbx _ (Below.refl _ _)
        refine wp_region_noPanic ?_
        refine wp_region_held_drew (S := fun wx => Below w2.heap.size w2 wx) (by kernel_rfl) (Below.refl _ _).drew (fun hHeld => ?_)
        refine wpAnyH_take (i := 0) (v := ?_) (at_list rfl) (by kernel_rfl) (by kernel_rfl) (by kernel_rfl) (fun _ _ _ h => h) (Or.inl ⟨by rfl, ?_⟩) (by assumption) ?_
        rotate_left
        · intro w hSw; (try dsimp only at hSw); first | (go_simp; done) | (go_simp; with_reducible rfl)
        try simp only [Act.put]
        try simp only [List.setIfInBounds_toArray]
        try simp only [List.set_cons_succ]
        try simp only [List.set_cons_zero]
        refine wpAnyH_take (i := 1) (v := ?_) (at_list rfl) (by kernel_rfl) (by kernel_rfl) (by kernel_rfl) (fun _ _ _ h => h) (Or.inl ⟨by rfl, ?_⟩) (by assumption) ?_
        rotate_left
        · intro w hSw; (try dsimp only at hSw); first | (go_simp; done) | (go_simp; with_reducible rfl)
        try simp only [Act.put]
        try simp only [List.setIfInBounds_toArray]
        try simp only [List.set_cons_succ]
        try simp only [List.set_cons_zero]
        refine wpAnyH_take (i := 2) (v := ?_) (at_list rfl) (by kernel_rfl) (by kernel_rfl) (by kernel_rfl) (fun _ _ _ h => h) (Or.inl ⟨by rfl, ?_⟩) (by assumption) ?_
        rotate_left
        · intro w hSw; (try dsimp only at hSw); first | (go_simp; done) | (go_simp; with_reducible rfl)
        try simp only [Act.put]
        try simp only [List.setIfInBounds_toArray]
        try simp only [List.set_cons_succ]
        try simp only [List.set_cons_zero]
        refine wpAnyH_take (i := 3) (v := ?_) (at_list rfl) (by kernel_rfl) (by kernel_rfl) (by kernel_rfl) (fun _ _ _ h => h) (Or.inl ⟨by rfl, ?_⟩) (by assumption) ?_
        rotate_left
        · intro w hSw; (try dsimp only at hSw); first | (go_simp; done) | (go_simp; with_reducible rfl)
        try simp only [Act.put]
        try simp only [List.setIfInBounds_toArray]
        try simp only [List.set_cons_succ]
        try simp only [List.set_cons_zero]
        refine wpAnyH_take (i := 4) (v := ?_) (at_list rfl) (by kernel_rfl) (by kernel_rfl) (by kernel_rfl) (fun _ _ _ h => h) (Or.inl ⟨by rfl, ?_⟩) (by assumption) ?_
        rotate_left
        · intro w hSw; (try dsimp only at hSw); first | (go_simp; done) | (go_simp; with_reducible rfl)
        try simp only [Act.put]
        try simp only [List.setIfInBounds_toArray]
        try simp only [List.set_cons_succ]
        try simp only [List.set_cons_zero]
        refine wpAnyH_take (i := 5) (v := ?_) (at_list rfl) (by kernel_rfl) (by kernel_rfl) (by kernel_rfl) (fun _ _ _ h => h) (Or.inl ⟨by rfl, ?_⟩) (by assumption) ?_
        rotate_left
        · intro w hSw; (try dsimp only at hSw); first | (go_simp; done) | (go_simp; with_reducible rfl)
        try simp only [Act.put]
        try simp only [List.setIfInBounds_toArray]
        try simp only [List.set_cons_succ]
        try simp only [List.set_cons_zero]
        refine wpAnyH_take (i := 6) (v := ?_) (at_list rfl) (by kernel_rfl) (by kernel_rfl) (by kernel_rfl) (fun _ _ _ h => h) (Or.inl ⟨by rfl, ?_⟩) (by assumption) ?_
        rotate_left
        · intro w hSw; (try dsimp only at hSw); first | (go_simp; done) | (go_simp; with_reducible rfl)
        try simp only [Act.put]
        try simp only [List.setIfInBounds_toArray]
        try simp only [List.set_cons_succ]
        try simp only [List.set_cons_zero]
        refine wpAnyH_take (i := 7) (v := ?_) (at_list rfl) (by kernel_rfl) (by kernel_rfl) (by kernel_rfl) (fun _ _ _ h => h) (Or.inl ⟨by rfl, ?_⟩) (by assumption) ?_
        rotate_left
        · intro w hSw; (try dsimp only at hSw); first | (go_simp; done) | (go_simp; with_reducible rfl)
        try simp only [Act.put]
        try simp only [List.setIfInBounds_toArray]
        try simp only [List.set_cons_succ]
        try simp only [List.set_cons_zero]
        refine wpAnyH_take (i := 8) (v := ?_) (at_list rfl) (by kernel_rfl) (by kernel_rfl) (by kernel_rfl) (fun _ _ _ h => h) (Or.inl ⟨by rfl, ?_⟩) (by assumption) ?_
        rotate_left
        · intro w hSw; (try dsimp only at hSw); first | (go_simp; done) | (go_simp; with_reducible rfl)
        try simp only [Act.put]
        try simp only [List.setIfInBounds_toArray]
        try simp only [List.set_cons_succ]
        try simp only [List.set_cons_zero]
        refine wpAnyH_take (i := 9) (v := ?_) (at_list rfl) (by kernel_rfl) (by kernel_rfl) (by kernel_rfl) (fun _ _ _ h => h) (Or.inl ⟨by rfl, ?_⟩) (by assumption) ?_
        rotate_left
        · intro w hSw; (try dsimp only at hSw); first | (go_simp; done) | (go_simp; with_reducible rfl)
        try simp only [Act.put]
        try simp only [List.setIfInBounds_toArray]
        try simp only [List.set_cons_succ]
        try simp only [List.set_cons_zero]
        refine wpAnyH_take (i := 10) (v := ?_) (at_list rfl) (by kernel_rfl) (by kernel_rfl) (by kernel_rfl) (fun _ _ _ h => h) (Or.inl ⟨by rfl, ?_⟩) (by assumption) ?_
        rotate_left
        · intro w hSw; (try dsimp only at hSw); first | (go_simp; done) | (go_simp; with_reducible rfl)
        try simp only [Act.put]
        try simp only [List.setIfInBounds_toArray]
        try simp only [List.set_cons_succ]
        try simp only [List.set_cons_zero]
        refine wpAnyH_done (by kernel_rfl) ?_ _
        refine NoPanic.normal ?_
        have HM3 := hide ((unhide HM2).bel hHeld)
        have HB3 := hide ((unhide HB2).trans (hHeld.mono (by have := (unhide HB2).size; omega)))
        have hbx3 := hbx _ hHeld
        generalize w2.drew = w3 at *
        clear hbx2 hbx hbm hrg hHeld HM2 HW2 HB2 hd hdm
        by_cases hjb : S.reg q = (b : Int)
        · have HR := hide (show runL (L.drop (a + 1)) S = runL L s by have := unhide HRUN; rw [hact, if_pos hjb] at this; simpa using this)
          have hne : (S.reg q != (b : Int)) = false := by simp [hjb]
          clear hact hjb
          go_wp2
          go_roundw
          case rel => exact ⟨a + 1, S, by go_num, by omega, unhide HM3, unhide HB3, unhide HR⟩
          case measure => simp [intOf]; omega
        · have HR := hide (show runL (L.drop (a + n + 1)) S = runL L s by have := unhide HRUN; rw [hact, if_neg hjb] at this; simpa [List.drop_drop, Nat.add_comm, Nat.add_left_comm, Nat.add_assoc] using this)
          have hne : (S.reg q != (b : Int)) = true := by simp [hjb]
          clear hact hjb
          go_wp2
          go_roundw
          case rel => exact ⟨a + n + 1, S, by go_num, by omega, unhide HM3, unhide HB3, unhide HR⟩
          case measure => simp [intOf]; omega
      · have HR := hide (show runL (L.drop (a + 1)) { S with mark := upd S.mark q true } = runL L s by have := unhide HRUN; rw [act_mark] at this; simpa using this)
        go_wp2
        generalize w1.alloc (.cells #[.int .u8 65, .int .i64 q, .int .i64 b, .int .i64 k, .int .i64 n] 95) = w2 at *
        generalize w1.heap.size = sb at *
        have hrg := fun (wx : World) (h : Below w2.heap.size w2 wx) => ((unhide HM2).bel h).reg hq
        have hbx := fun (wx : World) (h : Below w2.heap.size w2 wx) => blk_cell (blk_below (unhide HW2) h)
        have hbm := fun (wx : World) (h : Below w2.heap.size w2 wx) => blk_cell ((unhide HM2).bel h).box
        have hbx2 := hbx _ (Below.refl _ _)
        refine wp_region_noPanic ?_
        refine wp_region_held_drew (S := fun wx => (wx.heap[gm]? = some (.cells #[.slice (some ⟨g1, 0, none⟩) 8 8, .slice (some ⟨g2, 0, none⟩) 64 64, .slice (some ⟨g3, 0, none⟩) 8 8] 107 (0, 0)) ∧ wx.heap[sb]? = some (.cells #[.int .u8 65, .int .i64 q, .int .i64 b, .int .i64 k, .int .i64 n] 95 (0, 0)))) (by kernel_rfl) ⟨(unhide HM2).box, unhide HW2⟩ (fun hHeld => ?_)
        have HM3 := hide ((unhide HM2).bel (Below.refl w2.heap.size w2).drew)
        have hrc := (unhide HM3).mark hq
        have hfr := (unhide HM3).marks.frozenAt q
        have hS9 := And.intro ((unhide HM3).setMark q).box (blk_set_other (j := q) (.bool true) hHeld.2 hs3.symm)
        have HB9 := hide ((unhide HB2).drew.setCell (p := ⟨g3, q, none⟩) hl3 (.bool true))
        clear hbx2 hbx hbm hrg
        refine wpAnyH_take (i := 0) (v := ?_) (at_list rfl) (by kernel_rfl) (by kernel_rfl) (by kernel_rfl) (fun _ _ _ h => h) (Or.inl ⟨by rfl, ?_⟩) (by assumption) ?_
        rotate_left
        · intro w hSw; (try dsimp only at hSw); first | (go_simp; done) | (go_simp; with_reducible rfl)
        try simp only [Act.put]
        try simp only [List.setIfInBounds_toArray]
        try simp only [List.set_cons_succ]
        try simp only [List.set_cons_zero]
        refine wpAnyH_take (i := 1) (v := ?_) (at_list rfl) (by kernel_rfl) (by kernel_rfl) (by kernel_rfl) (fun _ _ _ h => h) (Or.inl ⟨by rfl, ?_⟩) (by assumption) ?_
        rotate_left
        · intro w hSw; (try dsimp only at hSw); first | (go_simp; done) | (go_simp; with_reducible rfl)
        try simp only [Act.put]
        try simp only [List.setIfInBounds_toArray]
        try simp only [List.set_cons_succ]
        try simp only [List.set_cons_zero]
        refine wpAnyH_take (i := 2) (v := ?_) (at_list rfl) (by kernel_rfl) (by kernel_rfl) (by kernel_rfl) (fun _ _ _ h => h) (Or.inl ⟨by rfl, ?_⟩) (by assumption) ?_
        rotate_left
        · intro w hSw; (try dsimp only at hSw); first | (go_simp; done) | (go_simp; with_reducible rfl)
        try simp only [Act.put]
        try simp only [List.setIfInBounds_toArray]
        try simp only [List.set_cons_succ]
        try simp only [List.set_cons_zero]
        refine wpAnyH_take (i := 3) (v := ?_) (at_list rfl) (by kernel_rfl) (by kernel_rfl) (by kernel_rfl) (fun _ _ _ h => h) (Or.inl ⟨by rfl, ?_⟩) (by assumption) ?_
        rotate_left
        · intro w hSw; (try dsimp only at hSw); first | (go_simp; done) | (go_simp; with_reducible rfl)
        try simp only [Act.put]
        try simp only [List.setIfInBounds_toArray]
        try simp only [List.set_cons_succ]
        try simp only [List.set_cons_zero]
        refine wpAnyH_take (i := 4) (v := ?_) (at_list rfl) (by kernel_rfl) (by kernel_rfl) (by kernel_rfl) (fun _ _ _ h => h) (Or.inl ⟨by rfl, ?_⟩) (by assumption) ?_
        rotate_left
        · intro w hSw; (try dsimp only at hSw); first | (go_simp; done) | (go_simp; with_reducible rfl)
        try simp only [Act.put]
        try simp only [List.setIfInBounds_toArray]
        try simp only [List.set_cons_succ]
        try simp only [List.set_cons_zero]
        refine wpAnyH_take (i := 5) (v := ?_) (at_list rfl) (by kernel_rfl) (by kernel_rfl) (by kernel_rfl) (fun _ _ _ h => h) (Or.inl ⟨by rfl, ?_⟩) (by assumption) ?_
        rotate_left
        · intro w hSw; (try dsimp only at hSw); first | (go_simp; done) | (go_simp; with_reducible rfl)
        try simp only [Act.put]
        try simp only [List.setIfInBounds_toArray]
        try simp only [List.set_cons_succ]
        try simp only [List.set_cons_zero]
        refine wpAnyH_take (i := 6) (v := ?_) (at_list rfl) (by kernel_rfl) (by kernel_rfl) (by kernel_rfl) (fun _ _ _ h => h) (Or.inl ⟨by rfl, ?_⟩) (by assumption) ?_
        rotate_left
        · intro w hSw; (try dsimp only at hSw); first | (go_simp; done) | (go_simp; with_reducible rfl)
        try simp only [Act.put]
        try simp only [List.setIfInBounds_toArray]
        try simp only [List.set_cons_succ]
        try simp only [List.set_cons_zero]
        refine wpAnyH_ready (rs := [7]) (by kernel_rfl) (by simp) ?_
        refine AllReadyH.cons (at_list rfl) (fun K hK => ?_) AllReadyH.nil
        go_simp
        refine hK.out _ _ (hS9) (fun hHeld => ?_)
        clear hK K
        try simp only [Act.put]
        try simp only [List.setIfInBounds_toArray]
        try simp only [List.set_cons_succ]
        try simp only [List.set_cons_zero]
        refine wpAnyH_done (by kernel_rfl) ?_ _
        refine NoPanic.normal ?_
        clear hd hdm
        go_wp2
        go_roundw
        case rel => exact ⟨a + 1, _, by go_num, by omega, (unhide HM3).setMark q, unhide HB9, unhide HR⟩
        case measure => simp [intOf]; omega
    · have HR := hide (show (S, (0 : Int), (0 : Int)) = runL L s by rw [← unhide HRUN, List.drop_of_length_le (by omega), runL_nil])
      have hge : ¬ (a : Int) < (L.length : Int) := by omega
      go_wp2
      go_ret2
      exact ⟨by rw [← unhide HR]; rfl, by rw [← unhide HR]; exact unhide HMA, unhide HBW⟩

end Go.Proofs.Ytljodhcfimklkaa

namespace Go.Proofs.Ytljodhcfimklkaa
open Go.RowKit

/-- What is run: the values in the registers, no mark, no bit. -/
def st0 (Z : List Int) : St := ⟨zAt Z, fun _ => false, 0⟩
/-- P9, as the program answers it. -/
def fillOut (s : ByteArray) (Z : List Int) (sz : Int) : ByteArray × Int × Int :=
  if vE s ≠ 0 then (noBytes, vE s, vP s) else if sz < 0 ∨ 8 < sz then (noBytes, 10, 0) else if 8 < Z.length then (noBytes, 8, 0)
  else if (runL (codeL s) (st0 Z)).2.1 ≠ 0 then (noBytes, (runL (codeL s) (st0 Z)).2.1, (runL (codeL s) (st0 Z)).2.2) else (payB (runL (codeL s) (st0 Z)).1.N sz.toNat, 0, 0)

/-- The first k values are in. -/
def stTo (Z : List Int) (k : Nat) : St := ⟨fun j => if j < k then zAt Z j else 0, fun _ => false, 0⟩
theorem stTo_succ (Z : List Int) (k : Nat) : { stTo Z k with reg := upd (stTo Z k).reg k (zAt Z k) } = stTo Z (k + 1) := by
  simp only [stTo, St.mk.injEq, and_true]
  funext j
  simp only [upd]
  by_cases e : j = k
  · subst e; simp
  · rw [if_neg e]
    by_cases h : j < k
    · rw [if_pos h, if_pos (by omega)]
    · rw [if_neg h, if_neg (by omega)]
theorem stTo_all (Z : List Int) : stTo Z Z.length = st0 Z := by
  simp only [stTo, st0, St.mk.injEq, and_true]
  funext j
  by_cases h : j < Z.length
  · rw [if_pos h]
  · rw [if_neg h, zAt, List.getD_eq_getElem?_getD, List.getElem?_eq_none (by omega)]; rfl

theorem mach_new (w : World) (Z : List Int) : MachAt (w.alloc (.cells #[.int .i64 0, .int .i64 0, .int .i64 0, .int .i64 0, .int .i64 0, .int .i64 0, .int .i64 0, .int .i64 0, .bool false, .bool false, .bool false, .bool false, .bool false, .bool false, .bool false, .bool false, .int .u64 0] 101)) w.heap.size (stTo Z 0) :=
  ⟨rfl, .inr ⟨_, 1, _, rfl, Nat.le_refl _, blk_new _ _, Nat.le_refl _, by simp [maxLen], rfl, rfl⟩⟩

set_option maxRecDepth 100000 in
set_option maxHeartbeats 2000000 in
theorem Fill_any (s : ByteArray) (vz : Value) (Z : List Int) (sz : Int) (w : World) (hz : IntsAt w vz Z) (hzl : Z.length * 8 ≤ 140737488351232) :
    Calls Try.prog 30 #[.string s, vz, .int .i64 sz] w fun e w' => e = .returned (.tuple #[.string (fillOut s Z sz).1, .int .i64 (fillOut s Z sz).2.1, .int .i64 (fillOut s Z sz).2.2]) ∧ Below w.heap.size w w' := by
  have HZ := hide hz
  obtain ⟨za, zcap, rfl, hz1, hz2, hz3⟩ := hz
  have HZ2 := hide hz2
  have HZ3 := hide hz3
  clear hz2 hz3
  go_enter Try.func30, Try.ntmps30
  go_wp2_with fail
  refine (soundCode_any s _).mono ?_
  rintro e w1 ⟨⟨pa, pn, pcap, rfl, hin⟩, hb1⟩
  have HB1 := hide hb1
  clear hb1
  by_cases hve : vE s ≠ 0
  · have HO := hide (pk_eta _ (show fillOut s Z sz = (noBytes, vE s, vP s) by rw [fillOut, if_pos hve]))
    have hve2 : (vE s != 0) = true := by simpa using hve
    clear hve
    go_wp2
    go_ret3
    exact ⟨by rw [(unhide HO).1, (unhide HO).2.1, (unhide HO).2.2]; rfl, unhide HB1⟩
  have hve : vE s = 0 := by omega
  have HIN := hide (hin hve)
  have HVE := hide hve
  have hve2 : (vE s != 0) = false := by rw [hve]; rfl
  clear hin hve
  by_cases hs0 : sz < 0
  · have HO := hide (pk_eta _ (show fillOut s Z sz = (noBytes, 10, 0) by rw [fillOut, if_neg (by rw [unhide HVE]; simp), if_pos (.inl hs0)]))
    go_wp2
    go_ret3
    exact ⟨by rw [(unhide HO).1, (unhide HO).2.1, (unhide HO).2.2]; rfl, unhide HB1⟩
  by_cases hs8 : 8 < sz
  · have HO := hide (pk_eta _ (show fillOut s Z sz = (noBytes, 10, 0) by rw [fillOut, if_neg (by rw [unhide HVE]; simp), if_pos (.inr hs8)]))
    go_wp2
    go_ret3
    exact ⟨by rw [(unhide HO).1, (unhide HO).2.1, (unhide HO).2.2]; rfl, unhide HB1⟩
  by_cases hl8 : 8 < Z.length
  · have HO := hide (pk_eta _ (show fillOut s Z sz = (noBytes, 8, 0) by rw [fillOut, if_neg (by rw [unhide HVE]; simp), if_neg (by omega), if_pos hl8]))
    have hl8' : (8 : Int) < (Z.length : Int) := by omega
    go_wp2
    go_ret3
    exact ⟨by rw [(unhide HO).1, (unhide HO).2.1, (unhide HO).2.2]; rfl, unhide HB1⟩
  have HO := hide (show fillOut s Z sz = if (runL (codeL s) (st0 Z)).2.1 ≠ 0 then (noBytes, (runL (codeL s) (st0 Z)).2.1, (runL (codeL s) (st0 Z)).2.2) else (payB (runL (codeL s) (st0 Z)).1.N sz.toNat, 0, 0) by rw [fillOut, if_neg (by rw [unhide HVE]; simp), if_neg (by omega), if_neg hl8])
  have hl8' : (Z.length : Int) ≤ 8 := by omega
  obtain ⟨R, HR⟩ : ∃ R, Hid (R = runL (codeL s) (st0 Z)) := ⟨_, hide rfl⟩
  rw [← unhide HR] at HO
  go_wp2
  go_loopw [13] (fun i wr => ∃ k : Nat, k ≤ Z.length ∧ i = .int .i64 k ∧ MachAt wr w1.heap.size (stTo Z k) ∧ Below w1.heap.size w1 wr) (fun i _ => Z.length - (intOf i).toNat)
  case atStart => exact ⟨0, by omega, rfl, mach_new w1 Z, (Below.refl _ _).alloc (Nat.le_refl _) _⟩
  case round =>
    obtain ⟨k, hk, rfl, hm, hb⟩ := hrel
    have HM := hide hm
    have HB := hide hb
    clear hm hb
    by_cases hlt : k < Z.length
    · cases za with
      | none => have := unhide HZ2 rfl; omega
      | some xa =>
        have hzc := ints_cell (unhide HZ3 xa rfl) ((unhide HB1).trans ((unhide HB).mono (unhide HB1).size)) hlt
        have hrc := (unhide HM).reg (show k < 8 by omega)
        have hfr := (unhide HM).free k
        have hi0 : (0 : Int) ≤ (k : Int) := by omega
        have hi1 : (k : Int) < (Z.length : Int) := by omega
        have hi2 : (k : Int) < 8 := by omega
        go_wp2
        go_roundw
        case rel => exact ⟨k + 1, by omega, by go_num, by rw [← stTo_succ]; exact (unhide HM).setReg (by omega) _, (unhide HB).setCell (Nat.le_refl _) _⟩
        case measure => simp [intOf]; omega
    · have hkz : k = Z.length := by omega
      rw [hkz, stTo_all] at HM
      clear hkz
      go_wp2_with fail
      refine (run_any w1.heap.size _ (codeL s) (st0 Z) w1 _ (unhide HIN) (Nat.le_refl _) (unhide HB) (unhide HM) (by simp [st0]) (code_fine (unhide HVE)).1 (code_fine (unhide HVE)).2).mono ?_
      rintro e w2 ⟨rfl, hm2, _, hb2⟩
      rw [← unhide HR] at hm2 ⊢
      have HM2 := hide hm2
      have HB2 := hide ((unhide HB1).trans (((unhide HB).trans hb2).mono (unhide HB1).size))
      clear hm2 hb2
      by_cases hre : R.2.1 ≠ 0
      · have HP := hide (pk_eta _ (show fillOut s Z sz = (noBytes, R.2.1, R.2.2) by rw [unhide HO, if_pos hre]))
        have hre2 : (R.2.1 != 0) = true := by simpa using hre
        clear hre
        go_wp2
        go_ret3
        exact ⟨by rw [(unhide HP).1, (unhide HP).2.1, (unhide HP).2.2]; rfl, unhide HB2⟩
      · have HP := hide (pk_eta _ (show fillOut s Z sz = (payB R.1.N sz.toNat, 0, 0) by rw [unhide HO, if_neg hre]))
        have hre2 : (R.2.1 != 0) = false := by simpa using hre
        have hnc := (unhide HM2).bits
        obtain ⟨q, hq⟩ : ∃ q : Nat, sz = q := ⟨sz.toNat, by omega⟩
        have HQ := hide hq
        clear hre hq
        go_wp2_with fail
        rw [unhide HQ]
        refine (payloadText_any R.1.N q _ (by have := unhide HQ; omega)).mono ?_
        rintro e w3 ⟨rfl, hb3⟩
        have HB3 := hide ((unhide HB2).trans (hb3.mono (unhide HB2).size))
        clear hb3 hnc
        go_wp2
        go_ret3
        refine ⟨?_, unhide HB3⟩
        rw [(unhide HP).1, (unhide HP).2.1, (unhide HP).2.2, unhide HQ, Int.toNat_natCast]; rfl

end Go.Proofs.Ytljodhcfimklkaa

namespace Go.Proofs.Ytljodhcfimklkaa
open Go.RowKit

/-- What is run: no value, no mark, the payload's bits. -/
def stN (N : Nat) : St := ⟨fun _ => 0, fun _ => false, N⟩
/-- P10, as the program answers it. -/
def readOut (s p : ByteArray) : List Int × ByteArray × Int × Int :=
  if 8 < p.size then ([], noBytes, 1, 0) else if vE s ≠ 0 then ([], noBytes, vE s, vP s)
  else if (runL (codeL s) (stN (payTo p p.size))).2.1 ≠ 0 then ([], noBytes, (runL (codeL s) (stN (payTo p p.size))).2.1, (runL (codeL s) (stN (payTo p p.size))).2.2)
  else (regsM (runL (codeL s) (stN (payTo p p.size))).1 8, strOfNums (signsM (runL (codeL s) (stN (payTo p p.size))).1 8), 0, 0)
def ReadOut (s p : ByteArray) (e : Ending) (w' : World) : Prop := ∃ u, e = .returned (.tuple #[u, .string (readOut s p).2.1, .int .i64 (readOut s p).2.2.1, .int .i64 (readOut s p).2.2.2]) ∧ IntsAt w' u (readOut s p).1

theorem rd_eta (x : List Int × ByteArray × Int × Int) {z : List Int} {a : ByteArray} {b c : Int} (h : x = (z, a, b, c)) : x.1 = z ∧ x.2.1 = a ∧ x.2.2.1 = b ∧ x.2.2.2 = c := by rw [h]; exact ⟨rfl, rfl, rfl, rfl⟩
theorem nil_ints (w : World) : IntsAt w (.slice none 0 0) [] := ⟨none, 0, rfl, by simp, by simp, by simp⟩
theorem mach_newN (w : World) (N : Nat) : MachAt (w.alloc (.cells #[.int .i64 0, .int .i64 0, .int .i64 0, .int .i64 0, .int .i64 0, .int .i64 0, .int .i64 0, .int .i64 0, .bool false, .bool false, .bool false, .bool false, .bool false, .bool false, .bool false, .bool false, .int .u64 N] 101)) w.heap.size (stN N) :=
  ⟨rfl, .inr ⟨_, 1, _, rfl, Nat.le_refl _, blk_new _ _, Nat.le_refl _, by simp [maxLen], rfl, rfl⟩⟩

set_option maxRecDepth 100000 in
set_option maxHeartbeats 2000000 in
theorem Read_any (s p : ByteArray) (w : World) :
    Calls Try.prog 32 #[.string s, .string p] w fun e w' => ReadOut s p e w' ∧ Below w.heap.size w w' := by
  obtain ⟨j0, jinf, jz0, jz1, jz2⟩ := info_parts Try.infoInt
  have JINF := hide jinf
  have JZ0 := hide jz0
  have JZ1 := hide jz1
  have JZ2 := hide jz2
  clear jinf jz0 jz1 jz2
  by_cases hp8 : 8 < p.size
  · have HO := hide (rd_eta _ (show readOut s p = ([], noBytes, 1, 0) by rw [readOut, if_pos hp8]))
    have hp8' : (8 : Int) < (p.size : Int) := by omega
    go_enter Try.func32, Try.ntmps32
    go_wp2
    exact bodyPost_ret (v := .tuple #[.slice none 0 0, .string noBytes, .int .i64 1, .int .i64 0]) (by simp [results, Try.results32, go_sem, noBytes]) rfl ⟨⟨_, by rw [(unhide HO).2.1, (unhide HO).2.2.1, (unhide HO).2.2.2], by rw [(unhide HO).1]; exact nil_ints _⟩, Below.refl _ _⟩
  have hp8' : (p.size : Int) ≤ 8 := by omega
  go_enter Try.func32, Try.ntmps32
  go_wp2_with fail
  refine (soundCode_any s _).mono ?_
  rintro e w1 ⟨⟨pa, pn, pcap, rfl, hin⟩, hb1⟩
  have HB1 := hide hb1
  clear hb1
  by_cases hve : vE s ≠ 0
  · have HO := hide (rd_eta _ (show readOut s p = ([], noBytes, vE s, vP s) by rw [readOut, if_neg hp8, if_pos hve]))
    have hve2 : (vE s != 0) = true := by simpa using hve
    clear hve
    go_wp2
    exact bodyPost_ret (v := .tuple #[.slice none 0 0, .string noBytes, .int .i64 (vE s), .int .i64 (vP s)]) (by simp [results, Try.results32, go_sem, noBytes]) rfl ⟨⟨_, by rw [(unhide HO).2.1, (unhide HO).2.2.1, (unhide HO).2.2.2], by rw [(unhide HO).1]; exact nil_ints _⟩, unhide HB1⟩
  have hve : vE s = 0 := by omega
  have HIN := hide (hin hve)
  have HVE := hide hve
  have hve2 : (vE s != 0) = false := by rw [hve]; rfl
  clear hin hve
  obtain ⟨N, HN⟩ : ∃ N, Hid (N = payTo p p.size) := ⟨_, hide rfl⟩
  have HNL := hide (show N < 18446744073709551616 by rw [unhide HN]; exact payTo_64 p _ (by omega))
  obtain ⟨R, HR⟩ : ∃ R, Hid (R = runL (codeL s) (stN N)) := ⟨_, hide rfl⟩
  have HO := hide (show readOut s p = if R.2.1 ≠ 0 then ([], noBytes, R.2.1, R.2.2) else (regsM R.1 8, strOfNums (signsM R.1 8), 0, 0) by rw [readOut, if_neg hp8, if_neg (by rw [unhide HVE]; simp), unhide HR, unhide HN])
  have hm0 := mach_new w1 []
  have hfr := hm0.free 16
  have hn0 := hm0.bits
  have HM0 := hide hm0
  clear hm0
  go_wp2_with fail
  refine (payloadBits_any p _ (by omega)).mono ?_
  rintro e w2 ⟨rfl, rfl⟩
  rw [← unhide HN]
  have HM1 := hide (mach_newN w1 N)
  have HB2 := hide (show Below w1.heap.size w1 (w1.alloc (.cells #[.int .i64 0, .int .i64 0, .int .i64 0, .int .i64 0, .int .i64 0, .int .i64 0, .int .i64 0, .int .i64 0, .bool false, .bool false, .bool false, .bool false, .bool false, .bool false, .bool false, .bool false, .int .u64 N] 101)) from (Below.refl _ _).alloc (Nat.le_refl _) _)
  go_wp2_with fail
  refine (run_any w1.heap.size _ (codeL s) (stN N) w1 _ (unhide HIN) (Nat.le_refl _) (unhide HB2) (unhide HM1) (unhide HNL) (code_fine (unhide HVE)).1 (code_fine (unhide HVE)).2).mono ?_
  rintro e w3 ⟨rfl, hm3, _, hb3⟩
  rw [← unhide HR] at hm3 ⊢
  have HM3 := hide hm3
  have HB3 := hide ((unhide HB1).trans (((unhide HB2).trans hb3).mono (unhide HB1).size))
  clear hm3 hb3 hfr hn0
  by_cases hre : R.2.1 ≠ 0
  · have HP := hide (rd_eta _ (show readOut s p = ([], noBytes, R.2.1, R.2.2) by rw [unhide HO, if_pos hre]))
    have hre2 : (R.2.1 != 0) = true := by simpa using hre
    clear hre
    go_wp2
    exact bodyPost_ret (v := .tuple #[.slice none 0 0, .string noBytes, .int .i64 R.2.1, .int .i64 R.2.2]) (by simp [results, Try.results32, go_sem, noBytes]) rfl ⟨⟨_, by rw [(unhide HP).2.1, (unhide HP).2.2.1, (unhide HP).2.2.2], by rw [(unhide HP).1]; exact nil_ints _⟩, unhide HB3⟩
  have HP := hide (rd_eta _ (show readOut s p = (regsM R.1 8, strOfNums (signsM R.1 8), 0, 0) by rw [unhide HO, if_neg hre]))
  have hre2 : (R.2.1 != 0) = false := by simpa using hre
  clear hre
  go_wp2
  go_loopw [12, 13] (fun v i wr => ∃ k : Nat, k ≤ 8 ∧ i = .int .i64 k ∧ wr.ownsRow w3.heap.size 3 1 v k ((regsM R.1 k).map (Value.int .i64)) ∧ Below w3.heap.size w3 wr) (fun _ i _ => 8 - (intOf i).toNat)
  case atStart => exact ⟨0, by omega, rfl, ⟨by simp [regsM], .inr ⟨_, 0, #[], rfl, Nat.le_refl _, blk_new _ _, by simp, by simp [maxLen], by simp, by simp [regsM]⟩⟩, (Below.refl _ _).alloc (Nat.le_refl _) _⟩
  case round =>
    obtain ⟨k, hk, rfl, hown, hb⟩ := hrel
    obtain ⟨sa, cap, rfl⟩ := ownsRow_form hown
    have HOWN := hide hown
    have HB := hide hb
    clear hown hb
    by_cases hlt : k < 8
    · have hmk := ((unhide HM3).bel (unhide HB)).reg hlt
      have hi0 : (0 : Int) ≤ (k : Int) := by omega
      have hi1 : (k : Int) < 8 := by omega
      go_wp2_with (at_builtin; refine wpList_append_own _ rfl _ _ 29 rfl w3.heap.size 3 j0 _ 1 8 Try.underlying29 (unhide JINF) (unhide JZ0) (unhide JZ1) (unhide JZ2) rfl (by decide) _ _ _ rfl ((unhide HOWN).alloc _) ⟨wr.heap.size, 0, none⟩ 1 1 [.int .i64 (R.1.reg k)] rfl rfl ?c1 ?c2 ?c3 ?c4 ?c5 ?_)
      case c1 => exact new_cells (blk_new _ _)
      case c2 => simp [Value.oneCell']
      case c3 => unfold maxLen; omega
      case c4 => omega
      case c5 => have := (unhide HB).size; simp; omega
      intro v3 w4 hown3 hgrow _
      obtain ⟨a3, cap3, rfl⟩ := ownsRow_form hown3
      have HB4 := hide (Below.grown ((unhide HB).alloc (unhide HB).size _) hgrow (by have := (unhide HB).size; simp; omega) (fun k hk => ((unhide HOWN).lt k hk).1))
      have HOWN3 := hide hown3
      clear hown3 hgrow hmk
      go_wp2
      go_roundw
      case rel =>
        refine ⟨k + 1, by omega, by go_num, ?_, unhide HB4⟩
        have := unhide HOWN3
        rw [regsM_succ, List.map_append]
        exact this
      case measure => simp [intOf]; omega
    · have hkn : k = 8 := by omega
      subst hkn
      go_wp2_with fail
      refine (signs_any w1.heap.size R.1 _ ((unhide HM3).bel (unhide HB))).mono ?_
      rintro e w5 ⟨rfl, hb5⟩
      have HB5 := hide ((unhide HB3).trans (((unhide HB).trans (hb5.mono (unhide HB).size)).mono (unhide HB3).size))
      have HI := hide (IntsAt_row (Z := regsM R.1 8) (by rw [regsM_len]; exact ownsRow_bel (unhide HOWN) hb5))
      clear hb5
      go_wp2
      exact bodyPost_ret (v := .tuple #[.slice sa 8 cap, .string (strOfNums (signsM R.1 8)), .int .i64 0, .int .i64 0]) (by simp [results, Try.results32, go_sem]) rfl ⟨⟨_, by rw [(unhide HP).2.1, (unhide HP).2.2.1, (unhide HP).2.2.2], by rw [(unhide HP).1]; exact unhide HI⟩, unhide HB5⟩

end Go.Proofs.Ytljodhcfimklkaa

namespace Go.Proofs.Ytljodhcfimklkaa
open Go.RowKit

theorem Try.mk8 (w : World) : (Instr.makeSlice 29 (.int .i64 8) (.int .i64 8)).run Try.prog w = .ok (.slice (some ⟨w.heap.size, 0, none⟩) 8 8) (w.alloc (.cells (List.replicate 8 (Value.int .i64 0)).toArray 3)) := by kernel_rfl
theorem Try.mk64 (w : World) : (Instr.makeSlice 29 (.int .i64 64) (.int .i64 64)).run Try.prog w = .ok (.slice (some ⟨w.heap.size, 0, none⟩) 64 64) (w.alloc (.cells (List.replicate 64 (Value.int .i64 0)).toArray 3)) := by kernel_rfl
theorem Try.mkb8 (w : World) : (Instr.makeSlice 105 (.int .i64 8) (.int .i64 8)).run Try.prog w = .ok (.slice (some ⟨w.heap.size, 0, none⟩) 8 8) (w.alloc (.cells (List.replicate 8 (Value.bool false)).toArray 4)) := by kernel_rfl

theorem rm_new {w : World} {B gm g1 g2 g3 : Nat} (hm : w.heap[gm]? = some (.cells #[.slice (some ⟨g1, 0, none⟩) 8 8, .slice (some ⟨g2, 0, none⟩) 64 64, .slice (some ⟨g3, 0, none⟩) 8 8] 107 (0, 0)))
    (h1 : w.heap[g1]? = some (.cells (List.replicate 8 (Value.int .i64 0)).toArray 3 (0, 0))) (h2 : w.heap[g2]? = some (.cells (List.replicate 64 (Value.int .i64 0)).toArray 3 (0, 0))) (h3 : w.heap[g3]? = some (.cells (List.replicate 8 (Value.bool false)).toArray 4 (0, 0)))
    (b1 : B ≤ g1) (b2 : B ≤ g2) (b3 : B ≤ g3) (nm1 : gm ≠ g1) (nm2 : gm ≠ g2) (nm3 : gm ≠ g3) (n12 : g1 ≠ g2) (n13 : g1 ≠ g3) (n23 : g2 ≠ g3) : RM w B gm g1 g2 g3 (stN 0) := by
  refine ⟨hm, ⟨rfl, .inr ⟨_, 8, _, rfl, b1, h1, Nat.le_refl _, by simp [maxLen], rfl, ?_⟩⟩, ⟨rfl, .inr ⟨_, 64, _, rfl, b2, h2, Nat.le_refl _, by simp [maxLen], rfl, ?_⟩⟩, ⟨rfl, .inr ⟨_, 8, _, rfl, b3, h3, Nat.le_refl _, by simp [maxLen], rfl, ?_⟩⟩, nm1, nm2, nm3, n12, n13, n23⟩
  · simp [regsM, stN, List.range_succ]
  · simp [bitsM, stN, bitN, List.range_succ]
  · simp [marksM, stN, List.range_succ]
theorem four {w : World} (o0 o1 o2 o3 : Obj) : ((((w.alloc o0).alloc o1).alloc o2).alloc o3).heap[w.heap.size]? = some o0 ∧ ((((w.alloc o0).alloc o1).alloc o2).alloc o3).heap[w.heap.size + 1]? = some o1 ∧ ((((w.alloc o0).alloc o1).alloc o2).alloc o3).heap[w.heap.size + 2]? = some o2 ∧ ((((w.alloc o0).alloc o1).alloc o2).alloc o3).heap[w.heap.size + 3]? = some o3 := by
  refine ⟨blk_alloc (blk_alloc (blk_alloc (blk_new _ _))), blk_alloc (blk_alloc (new_two _ _ _)), ?_, ?_⟩
  · have := new_two (w.alloc o0) o1 o2
    rw [World.size_alloc] at this
    exact blk_alloc this
  · have := new_two ((w.alloc o0).alloc o1) o2 o3
    rw [World.size_alloc, World.size_alloc] at this
    exact this

set_option maxRecDepth 100000 in
set_option maxHeartbeats 2000000 in
theorem fresh_any (w : World) :
    Calls Try.prog 57 #[] w fun e w' => ∃ gm g1 g2 g3, e = .returned (.pointer (some ⟨gm, 0, none⟩)) ∧ RM w' w.heap.size gm g1 g2 g3 (stN 0) ∧ Below w.heap.size w w' := by
  have m1 := Try.mk8
  have m2 := Try.mk64
  have m3 := Try.mkb8
  go_enter Try.func57, Try.ntmps57
  go_wp2
  refine wp_region_noPanic ?_
  refine wp_region_held_drew (S := fun _ => True) (by kernel_rfl) trivial (fun hHeld => ?_)
  refine wpAnyH_ready (rs := [0, 1, 2]) (by kernel_rfl) (by simp) ?_
  refine AllReadyH.cons (at_list rfl) (fun K hK => ?_) (AllReadyH.cons (at_list rfl) (fun K hK => ?_) (AllReadyH.cons (at_list rfl) (fun K hK => ?_) AllReadyH.nil))
  · go_simp
    refine hK.out _ _ trivial (fun hHeld => ?_)
    clear hK K
    try simp only [Act.put]
    try simp only [List.setIfInBounds_toArray]
    try simp only [List.set_cons_succ]
    try simp only [List.set_cons_zero]
    refine wpAnyH_ready (rs := [1, 2]) (by kernel_rfl) (by simp) ?_
    refine AllReadyH.cons (at_list rfl) (fun K hK => ?_) (AllReadyH.cons (at_list rfl) (fun K hK => ?_) AllReadyH.nil)
    · go_simp
      refine hK.out _ _ trivial (fun hHeld => ?_)
      clear hK K
      try simp only [Act.put]
      try simp only [List.setIfInBounds_toArray]
      try simp only [List.set_cons_succ]
      try simp only [List.set_cons_zero]
      refine wpAnyH_ready (rs := [2]) (by kernel_rfl) (by simp) ?_
      refine AllReadyH.cons (at_list rfl) (fun K hK => ?_) AllReadyH.nil
      go_simp
      refine hK.out _ _ trivial (fun hHeld => ?_)
      clear hK K
      try simp only [Act.put]
      try simp only [List.setIfInBounds_toArray]
      try simp only [List.set_cons_succ]
      try simp only [List.set_cons_zero]
      refine wpAnyH_take (i := 3) (v := ?_) (at_list rfl) (by kernel_rfl) (by kernel_rfl) (by kernel_rfl) (fun _ _ _ h => h) (Or.inl ⟨by rfl, ?_⟩) (by assumption) ?_
      rotate_left
      · intro w hSw; (try dsimp only at hSw); first | (go_simp; done) | (go_simp; with_reducible rfl)
      try simp only [Act.put]
      try simp only [List.setIfInBounds_toArray]
      try simp only [List.set_cons_succ]
      try simp only [List.set_cons_zero]
      refine wpAnyH_ready (rs := [4]) (by kernel_rfl) (by simp) ?_
      refine AllReadyH.cons (at_list rfl) (fun K hK => ?_) AllReadyH.nil
      go_simp
      refine hK.out _ _ (trivial) (fun hHeld => ?_)
      clear hK K
      try simp only [Act.put]
      try simp only [List.setIfInBounds_toArray]
      try simp only [List.set_cons_succ]
      try simp only [List.set_cons_zero]
      refine wpAnyH_take (i := 5) (v := ?_) (at_list rfl) (by kernel_rfl) (by kernel_rfl) (by kernel_rfl) (fun _ _ _ h => h) (Or.inl ⟨by rfl, ?_⟩) (by assumption) ?_
      rotate_left
      · intro w hSw; (try dsimp only at hSw); first | (go_simp; done) | (go_simp; with_reducible rfl)
      try simp only [Act.put]
      try simp only [List.setIfInBounds_toArray]
      try simp only [List.set_cons_succ]
      try simp only [List.set_cons_zero]
      refine wpAnyH_done (by kernel_rfl) ?_ _
      refine NoPanic.normal ?_
      go_wp2
      go_ret
      exact ⟨_, _, _, _, rfl, rm_new (four (w := w.drew) _ _ _ _).2.2.2 (four (w := w.drew) _ _ _ _).1 (four (w := w.drew) _ _ _ _).2.1 (four (w := w.drew) _ _ _ _).2.2.1 (by first | omega | (simp; done) | (simp; omega)) (by first | omega | (simp; done) | (simp; omega)) (by first | omega | (simp; done) | (simp; omega)) (by first | omega | (simp; done) | (simp; omega)) (by first | omega | (simp; done) | (simp; omega)) (by first | omega | (simp; done) | (simp; omega)) (by first | omega | (simp; done) | (simp; omega)) (by first | omega | (simp; done) | (simp; omega)) (by first | omega | (simp; done) | (simp; omega)), ((((Below.refl w.heap.size w).drew.alloc (Nat.le_refl _) _).alloc (by first | omega | (simp; done) | (simp; omega)) _).alloc (by first | omega | (simp; done) | (simp; omega)) _).alloc (by first | omega | (simp; done) | (simp; omega)) _⟩
    · go_simp
      refine hK.out _ _ trivial (fun hHeld => ?_)
      clear hK K
      try simp only [Act.put]
      try simp only [List.setIfInBounds_toArray]
      try simp only [List.set_cons_succ]
      try simp only [List.set_cons_zero]
      refine wpAnyH_ready (rs := [1]) (by kernel_rfl) (by simp) ?_
      refine AllReadyH.cons (at_list rfl) (fun K hK => ?_) AllReadyH.nil
      go_simp
      refine hK.out _ _ trivial (fun hHeld => ?_)
      clear hK K
      try simp only [Act.put]
      try simp only [List.setIfInBounds_toArray]
      try simp only [List.set_cons_succ]
      try simp only [List.set_cons_zero]
      refine wpAnyH_take (i := 3) (v := ?_) (at_list rfl) (by kernel_rfl) (by kernel_rfl) (by kernel_rfl) (fun _ _ _ h => h) (Or.inl ⟨by rfl, ?_⟩) (by assumption) ?_
      rotate_left
      · intro w hSw; (try dsimp only at hSw); first | (go_simp; done) | (go_simp; with_reducible rfl)
      try simp only [Act.put]
      try simp only [List.setIfInBounds_toArray]
      try simp only [List.set_cons_succ]
      try simp only [List.set_cons_zero]
      refine wpAnyH_ready (rs := [4]) (by kernel_rfl) (by simp) ?_
      refine AllReadyH.cons (at_list rfl) (fun K hK => ?_) AllReadyH.nil
      go_simp
      refine hK.out _ _ (trivial) (fun hHeld => ?_)
      clear hK K
      try simp only [Act.put]
      try simp only [List.setIfInBounds_toArray]
      try simp only [List.set_cons_succ]
      try simp only [List.set_cons_zero]
      refine wpAnyH_take (i := 5) (v := ?_) (at_list rfl) (by kernel_rfl) (by kernel_rfl) (by kernel_rfl) (fun _ _ _ h => h) (Or.inl ⟨by rfl, ?_⟩) (by assumption) ?_
      rotate_left
      · intro w hSw; (try dsimp only at hSw); first | (go_simp; done) | (go_simp; with_reducible rfl)
      try simp only [Act.put]
      try simp only [List.setIfInBounds_toArray]
      try simp only [List.set_cons_succ]
      try simp only [List.set_cons_zero]
      refine wpAnyH_done (by kernel_rfl) ?_ _
      refine NoPanic.normal ?_
      go_wp2
      go_ret
      exact ⟨_, _, _, _, rfl, rm_new (four (w := w.drew) _ _ _ _).2.2.2 (four (w := w.drew) _ _ _ _).1 (four (w := w.drew) _ _ _ _).2.2.1 (four (w := w.drew) _ _ _ _).2.1 (by first | omega | (simp; done) | (simp; omega)) (by first | omega | (simp; done) | (simp; omega)) (by first | omega | (simp; done) | (simp; omega)) (by first | omega | (simp; done) | (simp; omega)) (by first | omega | (simp; done) | (simp; omega)) (by first | omega | (simp; done) | (simp; omega)) (by first | omega | (simp; done) | (simp; omega)) (by first | omega | (simp; done) | (simp; omega)) (by first | omega | (simp; done) | (simp; omega)), ((((Below.refl w.heap.size w).drew.alloc (Nat.le_refl _) _).alloc (by first | omega | (simp; done) | (simp; omega)) _).alloc (by first | omega | (simp; done) | (simp; omega)) _).alloc (by first | omega | (simp; done) | (simp; omega)) _⟩
  · go_simp
    refine hK.out _ _ trivial (fun hHeld => ?_)
    clear hK K
    try simp only [Act.put]
    try simp only [List.setIfInBounds_toArray]
    try simp only [List.set_cons_succ]
    try simp only [List.set_cons_zero]
    refine wpAnyH_ready (rs := [0, 2]) (by kernel_rfl) (by simp) ?_
    refine AllReadyH.cons (at_list rfl) (fun K hK => ?_) (AllReadyH.cons (at_list rfl) (fun K hK => ?_) AllReadyH.nil)
    · go_simp
      refine hK.out _ _ trivial (fun hHeld => ?_)
      clear hK K
      try simp only [Act.put]
      try simp only [List.setIfInBounds_toArray]
      try simp only [List.set_cons_succ]
      try simp only [List.set_cons_zero]
      refine wpAnyH_ready (rs := [2]) (by kernel_rfl) (by simp) ?_
      refine AllReadyH.cons (at_list rfl) (fun K hK => ?_) AllReadyH.nil
      go_simp
      refine hK.out _ _ trivial (fun hHeld => ?_)
      clear hK K
      try simp only [Act.put]
      try simp only [List.setIfInBounds_toArray]
      try simp only [List.set_cons_succ]
      try simp only [List.set_cons_zero]
      refine wpAnyH_take (i := 3) (v := ?_) (at_list rfl) (by kernel_rfl) (by kernel_rfl) (by kernel_rfl) (fun _ _ _ h => h) (Or.inl ⟨by rfl, ?_⟩) (by assumption) ?_
      rotate_left
      · intro w hSw; (try dsimp only at hSw); first | (go_simp; done) | (go_simp; with_reducible rfl)
      try simp only [Act.put]
      try simp only [List.setIfInBounds_toArray]
      try simp only [List.set_cons_succ]
      try simp only [List.set_cons_zero]
      refine wpAnyH_ready (rs := [4]) (by kernel_rfl) (by simp) ?_
      refine AllReadyH.cons (at_list rfl) (fun K hK => ?_) AllReadyH.nil
      go_simp
      refine hK.out _ _ (trivial) (fun hHeld => ?_)
      clear hK K
      try simp only [Act.put]
      try simp only [List.setIfInBounds_toArray]
      try simp only [List.set_cons_succ]
      try simp only [List.set_cons_zero]
      refine wpAnyH_take (i := 5) (v := ?_) (at_list rfl) (by kernel_rfl) (by kernel_rfl) (by kernel_rfl) (fun _ _ _ h => h) (Or.inl ⟨by rfl, ?_⟩) (by assumption) ?_
      rotate_left
      · intro w hSw; (try dsimp only at hSw); first | (go_simp; done) | (go_simp; with_reducible rfl)
      try simp only [Act.put]
      try simp only [List.setIfInBounds_toArray]
      try simp only [List.set_cons_succ]
      try simp only [List.set_cons_zero]
      refine wpAnyH_done (by kernel_rfl) ?_ _
      refine NoPanic.normal ?_
      go_wp2
      go_ret
      exact ⟨_, _, _, _, rfl, rm_new (four (w := w.drew) _ _ _ _).2.2.2 (four (w := w.drew) _ _ _ _).2.1 (four (w := w.drew) _ _ _ _).1 (four (w := w.drew) _ _ _ _).2.2.1 (by first | omega | (simp; done) | (simp; omega)) (by first | omega | (simp; done) | (simp; omega)) (by first | omega | (simp; done) | (simp; omega)) (by first | omega | (simp; done) | (simp; omega)) (by first | omega | (simp; done) | (simp; omega)) (by first | omega | (simp; done) | (simp; omega)) (by first | omega | (simp; done) | (simp; omega)) (by first | omega | (simp; done) | (simp; omega)) (by first | omega | (simp; done) | (simp; omega)), ((((Below.refl w.heap.size w).drew.alloc (Nat.le_refl _) _).alloc (by first | omega | (simp; done) | (simp; omega)) _).alloc (by first | omega | (simp; done) | (simp; omega)) _).alloc (by first | omega | (simp; done) | (simp; omega)) _⟩
    · go_simp
      refine hK.out _ _ trivial (fun hHeld => ?_)
      clear hK K
      try simp only [Act.put]
      try simp only [List.setIfInBounds_toArray]
      try simp only [List.set_cons_succ]
      try simp only [List.set_cons_zero]
      refine wpAnyH_ready (rs := [0]) (by kernel_rfl) (by simp) ?_
      refine AllReadyH.cons (at_list rfl) (fun K hK => ?_) AllReadyH.nil
      go_simp
      refine hK.out _ _ trivial (fun hHeld => ?_)
      clear hK K
      try simp only [Act.put]
      try simp only [List.setIfInBounds_toArray]
      try simp only [List.set_cons_succ]
      try simp only [List.set_cons_zero]
      refine wpAnyH_take (i := 3) (v := ?_) (at_list rfl) (by kernel_rfl) (by kernel_rfl) (by kernel_rfl) (fun _ _ _ h => h) (Or.inl ⟨by rfl, ?_⟩) (by assumption) ?_
      rotate_left
      · intro w hSw; (try dsimp only at hSw); first | (go_simp; done) | (go_simp; with_reducible rfl)
      try simp only [Act.put]
      try simp only [List.setIfInBounds_toArray]
      try simp only [List.set_cons_succ]
      try simp only [List.set_cons_zero]
      refine wpAnyH_ready (rs := [4]) (by kernel_rfl) (by simp) ?_
      refine AllReadyH.cons (at_list rfl) (fun K hK => ?_) AllReadyH.nil
      go_simp
      refine hK.out _ _ (trivial) (fun hHeld => ?_)
      clear hK K
      try simp only [Act.put]
      try simp only [List.setIfInBounds_toArray]
      try simp only [List.set_cons_succ]
      try simp only [List.set_cons_zero]
      refine wpAnyH_take (i := 5) (v := ?_) (at_list rfl) (by kernel_rfl) (by kernel_rfl) (by kernel_rfl) (fun _ _ _ h => h) (Or.inl ⟨by rfl, ?_⟩) (by assumption) ?_
      rotate_left
      · intro w hSw; (try dsimp only at hSw); first | (go_simp; done) | (go_simp; with_reducible rfl)
      try simp only [Act.put]
      try simp only [List.setIfInBounds_toArray]
      try simp only [List.set_cons_succ]
      try simp only [List.set_cons_zero]
      refine wpAnyH_done (by kernel_rfl) ?_ _
      refine NoPanic.normal ?_
      go_wp2
      go_ret
      exact ⟨_, _, _, _, rfl, rm_new (four (w := w.drew) _ _ _ _).2.2.2 (four (w := w.drew) _ _ _ _).2.2.1 (four (w := w.drew) _ _ _ _).1 (four (w := w.drew) _ _ _ _).2.1 (by first | omega | (simp; done) | (simp; omega)) (by first | omega | (simp; done) | (simp; omega)) (by first | omega | (simp; done) | (simp; omega)) (by first | omega | (simp; done) | (simp; omega)) (by first | omega | (simp; done) | (simp; omega)) (by first | omega | (simp; done) | (simp; omega)) (by first | omega | (simp; done) | (simp; omega)) (by first | omega | (simp; done) | (simp; omega)) (by first | omega | (simp; done) | (simp; omega)), ((((Below.refl w.heap.size w).drew.alloc (Nat.le_refl _) _).alloc (by first | omega | (simp; done) | (simp; omega)) _).alloc (by first | omega | (simp; done) | (simp; omega)) _).alloc (by first | omega | (simp; done) | (simp; omega)) _⟩
  · go_simp
    refine hK.out _ _ trivial (fun hHeld => ?_)
    clear hK K
    try simp only [Act.put]
    try simp only [List.setIfInBounds_toArray]
    try simp only [List.set_cons_succ]
    try simp only [List.set_cons_zero]
    refine wpAnyH_ready (rs := [0, 1]) (by kernel_rfl) (by simp) ?_
    refine AllReadyH.cons (at_list rfl) (fun K hK => ?_) (AllReadyH.cons (at_list rfl) (fun K hK => ?_) AllReadyH.nil)
    · go_simp
      refine hK.out _ _ trivial (fun hHeld => ?_)
      clear hK K
      try simp only [Act.put]
      try simp only [List.setIfInBounds_toArray]
      try simp only [List.set_cons_succ]
      try simp only [List.set_cons_zero]
      refine wpAnyH_ready (rs := [1]) (by kernel_rfl) (by simp) ?_
      refine AllReadyH.cons (at_list rfl) (fun K hK => ?_) AllReadyH.nil
      go_simp
      refine hK.out _ _ trivial (fun hHeld => ?_)
      clear hK K
      try simp only [Act.put]
      try simp only [List.setIfInBounds_toArray]
      try simp only [List.set_cons_succ]
      try simp only [List.set_cons_zero]
      refine wpAnyH_take (i := 3) (v := ?_) (at_list rfl) (by kernel_rfl) (by kernel_rfl) (by kernel_rfl) (fun _ _ _ h => h) (Or.inl ⟨by rfl, ?_⟩) (by assumption) ?_
      rotate_left
      · intro w hSw; (try dsimp only at hSw); first | (go_simp; done) | (go_simp; with_reducible rfl)
      try simp only [Act.put]
      try simp only [List.setIfInBounds_toArray]
      try simp only [List.set_cons_succ]
      try simp only [List.set_cons_zero]
      refine wpAnyH_ready (rs := [4]) (by kernel_rfl) (by simp) ?_
      refine AllReadyH.cons (at_list rfl) (fun K hK => ?_) AllReadyH.nil
      go_simp
      refine hK.out _ _ (trivial) (fun hHeld => ?_)
      clear hK K
      try simp only [Act.put]
      try simp only [List.setIfInBounds_toArray]
      try simp only [List.set_cons_succ]
      try simp only [List.set_cons_zero]
      refine wpAnyH_take (i := 5) (v := ?_) (at_list rfl) (by kernel_rfl) (by kernel_rfl) (by kernel_rfl) (fun _ _ _ h => h) (Or.inl ⟨by rfl, ?_⟩) (by assumption) ?_
      rotate_left
      · intro w hSw; (try dsimp only at hSw); first | (go_simp; done) | (go_simp; with_reducible rfl)
      try simp only [Act.put]
      try simp only [List.setIfInBounds_toArray]
      try simp only [List.set_cons_succ]
      try simp only [List.set_cons_zero]
      refine wpAnyH_done (by kernel_rfl) ?_ _
      refine NoPanic.normal ?_
      go_wp2
      go_ret
      exact ⟨_, _, _, _, rfl, rm_new (four (w := w.drew) _ _ _ _).2.2.2 (four (w := w.drew) _ _ _ _).2.1 (four (w := w.drew) _ _ _ _).2.2.1 (four (w := w.drew) _ _ _ _).1 (by first | omega | (simp; done) | (simp; omega)) (by first | omega | (simp; done) | (simp; omega)) (by first | omega | (simp; done) | (simp; omega)) (by first | omega | (simp; done) | (simp; omega)) (by first | omega | (simp; done) | (simp; omega)) (by first | omega | (simp; done) | (simp; omega)) (by first | omega | (simp; done) | (simp; omega)) (by first | omega | (simp; done) | (simp; omega)) (by first | omega | (simp; done) | (simp; omega)), ((((Below.refl w.heap.size w).drew.alloc (Nat.le_refl _) _).alloc (by first | omega | (simp; done) | (simp; omega)) _).alloc (by first | omega | (simp; done) | (simp; omega)) _).alloc (by first | omega | (simp; done) | (simp; omega)) _⟩
    · go_simp
      refine hK.out _ _ trivial (fun hHeld => ?_)
      clear hK K
      try simp only [Act.put]
      try simp only [List.setIfInBounds_toArray]
      try simp only [List.set_cons_succ]
      try simp only [List.set_cons_zero]
      refine wpAnyH_ready (rs := [0]) (by kernel_rfl) (by simp) ?_
      refine AllReadyH.cons (at_list rfl) (fun K hK => ?_) AllReadyH.nil
      go_simp
      refine hK.out _ _ trivial (fun hHeld => ?_)
      clear hK K
      try simp only [Act.put]
      try simp only [List.setIfInBounds_toArray]
      try simp only [List.set_cons_succ]
      try simp only [List.set_cons_zero]
      refine wpAnyH_take (i := 3) (v := ?_) (at_list rfl) (by kernel_rfl) (by kernel_rfl) (by kernel_rfl) (fun _ _ _ h => h) (Or.inl ⟨by rfl, ?_⟩) (by assumption) ?_
      rotate_left
      · intro w hSw; (try dsimp only at hSw); first | (go_simp; done) | (go_simp; with_reducible rfl)
      try simp only [Act.put]
      try simp only [List.setIfInBounds_toArray]
      try simp only [List.set_cons_succ]
      try simp only [List.set_cons_zero]
      refine wpAnyH_ready (rs := [4]) (by kernel_rfl) (by simp) ?_
      refine AllReadyH.cons (at_list rfl) (fun K hK => ?_) AllReadyH.nil
      go_simp
      refine hK.out _ _ (trivial) (fun hHeld => ?_)
      clear hK K
      try simp only [Act.put]
      try simp only [List.setIfInBounds_toArray]
      try simp only [List.set_cons_succ]
      try simp only [List.set_cons_zero]
      refine wpAnyH_take (i := 5) (v := ?_) (at_list rfl) (by kernel_rfl) (by kernel_rfl) (by kernel_rfl) (fun _ _ _ h => h) (Or.inl ⟨by rfl, ?_⟩) (by assumption) ?_
      rotate_left
      · intro w hSw; (try dsimp only at hSw); first | (go_simp; done) | (go_simp; with_reducible rfl)
      try simp only [Act.put]
      try simp only [List.setIfInBounds_toArray]
      try simp only [List.set_cons_succ]
      try simp only [List.set_cons_zero]
      refine wpAnyH_done (by kernel_rfl) ?_ _
      refine NoPanic.normal ?_
      go_wp2
      go_ret
      exact ⟨_, _, _, _, rfl, rm_new (four (w := w.drew) _ _ _ _).2.2.2 (four (w := w.drew) _ _ _ _).2.2.1 (four (w := w.drew) _ _ _ _).2.1 (four (w := w.drew) _ _ _ _).1 (by first | omega | (simp; done) | (simp; omega)) (by first | omega | (simp; done) | (simp; omega)) (by first | omega | (simp; done) | (simp; omega)) (by first | omega | (simp; done) | (simp; omega)) (by first | omega | (simp; done) | (simp; omega)) (by first | omega | (simp; done) | (simp; omega)) (by first | omega | (simp; done) | (simp; omega)) (by first | omega | (simp; done) | (simp; omega)) (by first | omega | (simp; done) | (simp; omega)), ((((Below.refl w.heap.size w).drew.alloc (Nat.le_refl _) _).alloc (by first | omega | (simp; done) | (simp; omega)) _).alloc (by first | omega | (simp; done) | (simp; omega)) _).alloc (by first | omega | (simp; done) | (simp; omega)) _⟩

end Go.Proofs.Ytljodhcfimklkaa

namespace Go.Proofs.Ytljodhcfimklkaa
open Go.RowKit

theorem bytes_put (N n b : Nat) : ((bytesL N n).map (Value.int .u8)).set (b / 8) (.int .u8 (byteOf (N ||| 2 ^ b) (b / 8))) = (bytesL (N ||| 2 ^ b) n).map (Value.int .u8) := by
  apply List.ext_getElem
  · simp [bytesL]
  · intro i h1 h2
    rw [List.getElem_set]
    simp [bytesL] at h2 ⊢
    split
    · rename_i e; subst e; rfl
    · rename_i e; rw [byteOf_other N b i (by omega)]

theorem shl_u8 (b : Nat) (w : World) : (Op.shift BinOp.shl IntKind.u8 1 IntKind.i64 ((b : Int).tmod 8)).run Try.prog w = .ok (.int .u8 (2 ^ (b % 8))) w := by
  have e : (b : Int).tmod 8 = ((b % 8 : Nat) : Int) := by rw [Int.tmod_eq_emod_of_nonneg (by omega)]; omega
  rw [e]
  have hd : b % 8 = 0 ∨ b % 8 = 1 ∨ b % 8 = 2 ∨ b % 8 = 3 ∨ b % 8 = 4 ∨ b % 8 = 5 ∨ b % 8 = 6 ∨ b % 8 = 7 := by omega
  rcases hd with h | h | h | h | h | h | h | h <;> rw [h] <;> rfl
theorem or_u8 (N b : Nat) : bits BinOp.or IntKind.u8 (byteOf N (b / 8) : Int) (2 ^ (b % 8)) = (byteOf (N ||| 2 ^ b) (b / 8) : Int) := by
  have h1 : 2 ^ (b % 8) < 256 := by
    have : 2 ^ (b % 8) ≤ 2 ^ 7 := Nat.pow_le_pow_right (by omega) (by omega)
    have e : (2 : Nat) ^ 7 = 128 := rfl
    omega
  have e : ((2 : Int) ^ (b % 8)) = ((2 ^ (b % 8) : Nat) : Int) := by simp
  rw [e, u8_or_nat _ _ (byteOf_lt N _) h1, byteOf_put]

set_option maxRecDepth 100000 in
set_option maxHeartbeats 1000000 in
theorem rPut_any (B g cap n N b : Nat) (w : World) (h : w.ownsRow B 5 1 (.slice (some ⟨g, 0, none⟩) n cap) n ((bytesL N n).map (Value.int .u8))) (hb : b < 8 * n) (hn : n ≤ 8) :
    Calls Try.prog 47 #[.slice (some ⟨g, 0, none⟩) n cap, .int .i64 b] w fun e w' => e = .returned (.tuple #[]) ∧ w'.ownsRow B 5 1 (.slice (some ⟨g, 0, none⟩) n cap) n ((bytesL (N ||| 2 ^ b) n).map (Value.int .u8)) ∧ w.grownBy w' (some g) := by
  have hq : b / 8 < n := by omega
  have hcell : w.cell? ⟨g, b / 8, none⟩ = some (.int .u8 (byteOf N (b / 8))) := by
    rw [h.cellAt (b / 8) (by omega)]
    simp [bytesL, hq]
  have hfree := h.frozenAt (b / 8)
  have HST := hide (h.stored (b / 8) (.int .u8 (byteOf (N ||| 2 ^ b) (b / 8))))
  have h0 : (0 : Int) ≤ (b : Int) := by omega
  have h1 : IntKind.i64.wrap ((b : Int) / 8) = (b : Int) / 8 := by rw [IntKind.wrap_i64]; omega
  have h3 : (0 : Int) ≤ (b : Int) / 8 := by omega
  have h4 : (b : Int) / 8 < (n : Int) := by omega
  have h5 : ((b : Int) / 8).toNat = b / 8 := by omega
  have hsh := shl_u8 b
  have hor := or_u8 N b
  have HH := hide h
  clear h
  go_enter Try.func47, Try.ntmps47
  go_wp2
  refine wp_region_noPanic ?_
  refine wp_region_held_drew (S := fun _ => True) (by kernel_rfl) trivial (fun hHeld => ?_)
  refine wpAnyH_take (i := 0) (v := ?_) (at_list rfl) (by kernel_rfl) (by kernel_rfl) (by kernel_rfl) (fun _ _ _ h => h) (Or.inl ⟨by rfl, ?_⟩) (by assumption) ?_
  rotate_left
  · intro w hSw; (try dsimp only at hSw); first | (go_simp; done) | (go_simp; with_reducible rfl)
  try simp only [Act.put]
  try simp only [List.setIfInBounds_toArray]
  try simp only [List.set_cons_succ]
  try simp only [List.set_cons_zero]
  refine wpAnyH_take (i := 1) (v := ?_) (at_list rfl) (by kernel_rfl) (by kernel_rfl) (by kernel_rfl) (fun _ _ _ h => h) (Or.inl ⟨by rfl, ?_⟩) (by assumption) ?_
  rotate_left
  · intro w hSw; (try dsimp only at hSw); first | (go_simp; done) | (go_simp; with_reducible rfl)
  try simp only [Act.put]
  try simp only [List.setIfInBounds_toArray]
  try simp only [List.set_cons_succ]
  try simp only [List.set_cons_zero]
  refine wpAnyH_take (i := 2) (v := ?_) (at_list rfl) (by kernel_rfl) (by kernel_rfl) (by kernel_rfl) (fun _ _ _ h => h) (Or.inl ⟨by rfl, ?_⟩) (by assumption) ?_
  rotate_left
  · intro w hSw; (try dsimp only at hSw); first | (go_simp; done) | (go_simp; with_reducible rfl)
  try simp only [Act.put]
  try simp only [List.setIfInBounds_toArray]
  try simp only [List.set_cons_succ]
  try simp only [List.set_cons_zero]
  refine wpAnyH_take (i := 3) (v := ?_) (at_list rfl) (by kernel_rfl) (by kernel_rfl) (by kernel_rfl) (fun _ _ _ h => h) (Or.inl ⟨by rfl, ?_⟩) (by assumption) ?_
  rotate_left
  · intro w hSw; (try dsimp only at hSw); first | (go_simp; done) | (go_simp; with_reducible rfl)
  try simp only [Act.put]
  try simp only [List.setIfInBounds_toArray]
  try simp only [List.set_cons_succ]
  try simp only [List.set_cons_zero]
  refine wpAnyH_take (i := 4) (v := ?_) (at_list rfl) (by kernel_rfl) (by kernel_rfl) (by kernel_rfl) (fun _ _ _ h => h) (Or.inl ⟨by rfl, ?_⟩) (by assumption) ?_
  rotate_left
  · intro w hSw; (try dsimp only at hSw); first | (go_simp; done) | (go_simp; with_reducible rfl)
  try simp only [Act.put]
  try simp only [List.setIfInBounds_toArray]
  try simp only [List.set_cons_succ]
  try simp only [List.set_cons_zero]
  refine wpAnyH_take (i := 5) (v := ?_) (at_list rfl) (by kernel_rfl) (by kernel_rfl) (by kernel_rfl) (fun _ _ _ h => h) (Or.inl ⟨by rfl, ?_⟩) (by assumption) ?_
  rotate_left
  · intro w hSw; (try dsimp only at hSw); first | (go_simp; done) | (go_simp; with_reducible rfl)
  try simp only [Act.put]
  try simp only [List.setIfInBounds_toArray]
  try simp only [List.set_cons_succ]
  try simp only [List.set_cons_zero]
  refine wpAnyH_take (i := 6) (v := ?_) (at_list rfl) (by kernel_rfl) (by kernel_rfl) (by kernel_rfl) (fun _ _ _ h => h) (Or.inl ⟨by rfl, ?_⟩) (by assumption) ?_
  rotate_left
  · intro w hSw; (try dsimp only at hSw); first | (go_simp; done) | (go_simp; with_reducible rfl)
  try simp only [Act.put]
  try simp only [List.setIfInBounds_toArray]
  try simp only [List.set_cons_succ]
  try simp only [List.set_cons_zero]
  refine wpAnyH_take (i := 8) (v := ?_) (at_list rfl) (by kernel_rfl) (by kernel_rfl) (by kernel_rfl) (fun _ _ _ h => h) (Or.inl ⟨by rfl, ?_⟩) (by assumption) ?_
  rotate_left
  · intro w hSw; (try dsimp only at hSw); first | (go_simp; done) | (go_simp; with_reducible rfl)
  try simp only [Act.put]
  try simp only [List.setIfInBounds_toArray]
  try simp only [List.set_cons_succ]
  try simp only [List.set_cons_zero]
  refine wpAnyH_take (i := 9) (v := ?_) (at_list rfl) (by kernel_rfl) (by kernel_rfl) (by kernel_rfl) (fun _ _ _ h => h) (Or.inl ⟨by rfl, ?_⟩) (by assumption) ?_
  rotate_left
  · intro w hSw; (try dsimp only at hSw); first | (go_simp; done) | (go_simp; with_reducible rfl)
  try simp only [Act.put]
  try simp only [List.setIfInBounds_toArray]
  try simp only [List.set_cons_succ]
  try simp only [List.set_cons_zero]
  refine wpAnyH_take (i := 10) (v := ?_) (at_list rfl) (by kernel_rfl) (by kernel_rfl) (by kernel_rfl) (fun _ _ _ h => h) (Or.inl ⟨by rfl, ?_⟩) (by assumption) ?_
  rotate_left
  · intro w hSw; (try dsimp only at hSw); first | (go_simp; done) | (go_simp; with_reducible rfl)
  try simp only [Act.put]
  try simp only [List.setIfInBounds_toArray]
  try simp only [List.set_cons_succ]
  try simp only [List.set_cons_zero]
  refine wpAnyH_ready (rs := [7]) (by kernel_rfl) (by simp) ?_
  refine AllReadyH.cons (at_list rfl) (fun K hK => ?_) AllReadyH.nil
  go_simp
  refine hK.out _ _ (trivial) (fun hHeld => ?_)
  clear hK K
  try simp only [Act.put]
  try simp only [List.setIfInBounds_toArray]
  try simp only [List.set_cons_succ]
  try simp only [List.set_cons_zero]
  refine wpAnyH_take (i := 11) (v := ?_) (at_list rfl) (by kernel_rfl) (by kernel_rfl) (by kernel_rfl) (fun _ _ _ h => h) (Or.inl ⟨by rfl, ?_⟩) (by assumption) ?_
  rotate_left
  · intro w hSw; (try dsimp only at hSw); first | (go_simp; done) | (go_simp; with_reducible rfl)
  try simp only [Act.put]
  try simp only [List.setIfInBounds_toArray]
  try simp only [List.set_cons_succ]
  try simp only [List.set_cons_zero]
  refine wpAnyH_take (i := 12) (v := ?_) (at_list rfl) (by kernel_rfl) (by kernel_rfl) (by kernel_rfl) (fun _ _ _ h => h) (Or.inl ⟨by rfl, ?_⟩) (by assumption) ?_
  rotate_left
  · intro w hSw; (try dsimp only at hSw); first | (go_simp; done) | (go_simp; with_reducible rfl)
  try simp only [Act.put]
  try simp only [List.setIfInBounds_toArray]
  try simp only [List.set_cons_succ]
  try simp only [List.set_cons_zero]
  refine wpAnyH_ready (rs := [13]) (by kernel_rfl) (by simp) ?_
  refine AllReadyH.cons (at_list rfl) (fun K hK => ?_) AllReadyH.nil
  go_simp
  refine hK.out _ _ (trivial) (fun hHeld => ?_)
  clear hK K
  try simp only [Act.put]
  try simp only [List.setIfInBounds_toArray]
  try simp only [List.set_cons_succ]
  try simp only [List.set_cons_zero]
  refine wpAnyH_done (by kernel_rfl) ?_ _
  refine NoPanic.normal ?_
  go_wp2
  go_end0
  refine ⟨rfl, ?_, ?_⟩
  · have := (unhide HST).1
    rw [bytes_put] at this
    exact this
  · have := (unhide HST).2
    exact ⟨this.os, this.tape, this.output, this.size, this.block⟩

set_option maxHeartbeats 400000 in
theorem rChosen_any (id : ByteArray) (sz pl : Int) (v vz : Value) (L : List Sg) (Z : List Int) (w : World) (h : RSigsAt w v L) (hl : L.length ≤ 8) (hz : IntsAt w vz Z) (hlen : Z.length = L.length) :
    Calls Try.prog 44 #[.agg #[.string id, .int .i64 sz, v, .int .i64 pl], vz] w fun e w' => e = .returned (.int .i64 (choiceOf L Z)) ∧ Below w.heap.size w w' := by
  obtain ⟨a, cap, rfl⟩ := ownsRow_form h
  have HH := hide h
  have HZ := hide hz
  obtain ⟨za, zcap, rfl, hz1, hz2, hz3⟩ := hz
  have HN := hide hz2
  have HC := hide hz3
  clear h hz2 hz3
  have hle1 : Z.length ≤ L.length := by omega
  have hle2 : L.length ≤ Z.length := by omega
  clear hlen
  go_enter Try.func44, Try.ntmps44
  go_wp2_with fail
  refine (rMux_any id sz pl _ L _ (ownsRow_below (unhide HH) ((Below.refl _ _).alloc (Nat.le_refl _) _)) hl).mono ?_
  rintro e w2 ⟨rfl, hb2⟩
  have HB2 := hide (((Below.refl _ _).alloc (Nat.le_refl _) _).trans (hb2.mono (by simp)))
  clear hb2
  rcases mux_range L with hmx | ⟨x, hx, hmx, _⟩
  · have HCH := hide (show choiceOf L Z = 0 by rw [choiceOf, hmx]; rfl)
    rw [hmx]
    clear hmx
    go_wp2
    go_ret
    exact ⟨ret_int (by rw [unhide HCH]), unhide HB2⟩
  · have hchx : choiceOf L Z = zAt Z x := by rw [choiceOf, hmx, if_pos (by omega), Int.toNat_natCast]
    have HCH := hide hchx
    rw [hmx]
    have hi1 : (x : Int) < (Z.length : Int) := by omega
    cases za with
    | none => have := unhide HN rfl; omega
    | some xa =>
      have hzc := ints_cell (unhide HC xa rfl) (unhide HB2) (show x < Z.length by omega)
      clear hchx hmx
      go_wp2
      go_ret
      exact ⟨ret_int (by rw [unhide HCH]), unhide HB2⟩

end Go.Proofs.Ytljodhcfimklkaa

namespace Go.Proofs.Ytljodhcfimklkaa
open Go.RowKit

theorem mod_set1 {N k : Nat} (h : N.testBit k = true) : N % 2 ^ (k + 1) = N % 2 ^ k ||| 2 ^ k := by
  apply Nat.eq_of_testBit_eq
  intro i
  rw [Nat.testBit_mod_two_pow, Nat.testBit_or, Nat.testBit_mod_two_pow, Nat.testBit_two_pow]
  by_cases e : i = k
  · subst e; simp [h]
  · have h1 : (i < k + 1) ↔ i < k := by omega
    have h2 : ¬ k = i := fun h => e h.symm
    simp [h1, h2]
theorem mod_setb (N k : Nat) : setb (N % 2 ^ k) k (N.testBit k) = N % 2 ^ (k + 1) := by
  apply Nat.eq_of_testBit_eq
  intro i
  rw [setb_test, Nat.testBit_mod_two_pow, Nat.testBit_mod_two_pow]
  by_cases e : i = k
  · subst e; simp
  · have h1 : (i < k + 1) ↔ i < k := by omega
    simp [e, h1]
theorem mod_set0 {N k : Nat} (h : N.testBit k = false) : N % 2 ^ (k + 1) = N % 2 ^ k := by
  rw [← mod_setb, h, setb, if_pos (by rw [Nat.testBit_mod_two_pow]; simp)]
theorem bytes_mod (N n : Nat) : bytesL (N % 2 ^ (8 * n)) n = bytesL N n := by
  apply List.ext_getElem
  · simp [bytesL]
  · intro i h1 h2
    simp [bytesL] at h2 ⊢
    congr 1
    apply Nat.eq_of_testBit_eq
    intro j
    rw [byteOf_bit, byteOf_bit, Nat.testBit_mod_two_pow]
    by_cases hj : j < 8
    · have : 8 * i + j < 8 * n := by omega
      simp [this]
    · simp [hj]
theorem bytesL_none (n : Nat) : (bytesL 0 n).map (Value.int .u8) = List.replicate n (.int .u8 0) := by
  apply List.ext_getElem
  · simp [bytesL]
  · intro i h1 h2; simp [bytesL, byteOf]

set_option maxRecDepth 100000 in
set_option maxHeartbeats 2000000 in
theorem rBytesOf_any (B gm g1 g2 g3 : Nat) (s : St) (n : Nat) (w : World) (h : RM w B gm g1 g2 g3 s) (hn : n ≤ 8) :
    Calls Try.prog 59 #[.pointer (some ⟨gm, 0, none⟩), .int .i64 n] w fun e w' => e = .returned (.string (payB s.N n)) ∧ Below w.heap.size w w' := by
  obtain ⟨i0, hinf, hz0, hzz1, hzz2⟩ := info_parts Try.infoU8
  have HINF := hide hinf
  have HZ0 := hide hz0
  have HZ1 := hide hzz1
  have HZB := hide hzz2
  have HM := hide h
  clear hinf hz0 hzz1 hzz2 h
  go_enter Try.func59, Try.ntmps59
  go_wp2_with (at_make; refine wpList_make_full _ rfl _ _ 38 rfl w.heap.size 5 i0 (.int .u8 0) 1 Try.underlying38 (unhide HINF) (unhide HZ0) (unhide HZ1) .i64 .i64 (n : Int) (n : Int) n rfl rfl rfl rfl (by rw [unhide HZB]; omega) (by unfold maxLen; omega) (Nat.le_refl _) ?_)
  intro w1 hown hgrow
  rw [toList_madeCells_one] at hown
  have HB1 := hide ((Below.refl w.heap.size w).grown hgrow (Nat.le_refl _) (by simp))
  have HOWN := hide hown
  clear hown hgrow
  go_wp2
  go_loopw [6] (fun i wr => ∃ k : Nat, k ≤ 8 * n ∧ i = .int .i64 k ∧ wr.ownsRow w.heap.size 5 1 (.slice (some ⟨w.heap.size, 0, none⟩) n n) n ((bytesL (s.N % 2 ^ k) n).map (Value.int .u8)) ∧ Below w.heap.size w wr) (fun i _ => 8 * n - (intOf i).toNat)
  case atStart => exact ⟨0, by omega, rfl, by rw [Nat.pow_zero, Nat.mod_one, bytesL_none]; simpa using unhide HOWN, unhide HB1⟩
  case round =>
    obtain ⟨k, hk, rfl, hrow, hb⟩ := hrel
    have HR := hide hrow
    have HB := hide hb
    clear hrow hb
    by_cases hlt : k < 8 * n
    · have hm := (unhide HM).bel (unhide HB)
      have hbx := blk_cell hm.box
      have hbt := hm.bit (show k < 64 by omega)
      have hi0 : (0 : Int) ≤ (k : Int) := by omega
      have hi1 : (k : Int) < 64 := by omega
      have hi2 : (k : Int) < 8 * (n : Int) := by omega
      have hbn := bitN_test s.N k
      clear hm
      cases ht : s.N.testBit k with
      | true =>
        rw [ht] at hbn
        simp only [if_true] at hbn
        rw [hbn] at hbt
        have HST := hide (mod_set1 ht)
        clear ht hbn
        go_wp2_with fail
        refine (rPut_any w.heap.size _ _ n _ k _ (unhide HR) hlt (by omega)).mono ?_
        rintro e w2 ⟨rfl, hrow2, hgr2⟩
        have HB2 := hide (Below.grown (unhide HB) hgr2 (unhide HB).size (fun q hq => by cases hq; exact Nat.le_refl _))
        have HR2 := hide hrow2
        clear hrow2 hgr2 hbx hbt
        go_wp2
        go_roundw
        case rel => exact ⟨k + 1, by omega, by go_num, by rw [unhide HST]; exact unhide HR2, unhide HB2⟩
        case measure => simp [intOf]; omega
      | false =>
        rw [ht] at hbn
        simp only [Bool.false_eq_true, if_false] at hbn
        rw [hbn] at hbt
        have HST := hide (mod_set0 ht)
        clear ht hbn
        go_wp2
        go_roundw
        case rel => exact ⟨k + 1, by omega, by go_num, by rw [unhide HST]; exact unhide HR, unhide HB⟩
        case measure => simp [intOf]; omega
    · have hkn : k = 8 * n := by omega
      rw [hkn, bytes_mod] at HR
      have hconv := conv_row (unhide HR)
      have hi2 : ¬ (k : Int) < 8 * (n : Int) := by omega
      clear hkn
      go_wp2
      go_ret
      exact ⟨rfl, unhide HB⟩

set_option maxRecDepth 100000 in
set_option maxHeartbeats 2000000 in
theorem rVerify_ok (L : List Ins) (w : World) (hf : Fine L) (hl : L.length ≤ 96) :
    Calls Try.prog 29 #[.string (codeB L)] w fun e w' => e = .returned (.tuple #[.int .i64 0, .int .i64 0]) ∧ Below w.heap.size w w' := by
  have HF := hide hf
  have hsz := codeB_size L
  clear hf
  go_enter Try.func29, Try.ntmps29
  go_wp2
  go_loopw [5] (fun i wr => ∃ a : Nat, i = .int .i64 a ∧ a ≤ L.length ∧ Below w.heap.size w wr) (fun i _ => L.length - (intOf i).toNat)
  case atStart => exact ⟨0, rfl, by omega, Below.refl _ _⟩
  case round =>
    obtain ⟨a, rfl, ha, hb⟩ := hrel
    have HB := hide hb
    clear hb
    by_cases hlt : a < L.length
    · obtain ⟨x, HX⟩ : ∃ x, Hid (x = inAt L a) := ⟨_, hide rfl⟩
      obtain ⟨hbyt, hkn⟩ := unhide HF a x (by rw [unhide HX]; exact inAt_some L a hlt)
      have HIX := hide (show insAt (codeB L) a = x from insAt_code (by rw [unhide HX]; exact inAt_some L a hlt) hbyt)
      have HBY := hide hbyt
      have HKN := hide hkn
      have hi1 : (a : Int) < (L.length : Int) := by omega
      clear hbyt hkn
      go_wp2_with fail
      refine (rAt_any (codeB L) a _ (by omega) (by omega)).mono ?_
      rintro e w1 ⟨rfl, hb1⟩
      rw [unhide HIX]
      have HB1 := hide ((unhide HB).trans (hb1.mono (unhide HB).size))
      clear hb1
      go_wp2_with fail
      refine (known_any x.op x.r x.b x.k x.n ((L.length : Int) - 1 - a) _ (unhide HBY) (unhide HKN)).mono ?_
      rintro e w2 ⟨rfl, hb2⟩
      have HB2 := hide ((unhide HB1).trans ((box_below (hb2.mono (by simp))).mono (unhide HB1).size))
      clear hb2
      go_wp2
      go_roundw
      case rel => exact ⟨a + 1, by go_num, by omega, unhide HB2⟩
      case measure => simp [intOf]; omega
    · have hi1 : ¬ (a : Int) < (L.length : Int) := by omega
      have hne : ((5 : Int) * (L.length : Int) != (L.length : Int) * 5) = false := by rw [bne_eq_false_iff_eq]; omega
      have hne2 : ((5 * (L.length : Int)) == ((L.length : Int) * 5)) = true := by rw [beq_iff_eq]; omega
      go_wp2
      go_ret2
      exact ⟨rfl, unhide HB⟩

end Go.Proofs.Ytljodhcfimklkaa
