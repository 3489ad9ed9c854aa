import Derived.Test.YtljodhcfimklkabH2
import Derived.Test.YtljodhcfimklkabF1
namespace Go.Proofs.Ytljodhcfimklkab
open Go.RowKit

theorem bitv_neg (k : Nat) (hk : k < 64) : bitv (-1) k = 1 := by
  have hd : ∀ k : Fin 64, bitv (-1) k.val = 1 := by decide +kernel
  exact hd ⟨k, hk⟩

theorem layTo_bit (st ln od : Int) (n p : Nat) (hn : n ≤ 64) : (layTo st ln od (-1) n).testBit p = anyIx (fun k => decide ((place st ln od k).toNat = p)) n := by
  induction n with
  | zero => simp [layTo, anyIx]
  | succ n ih =>
    rw [layTo, Nat.testBit_or, ih (by omega), bitv_neg n (by omega), Nat.one_mul, Nat.testBit_two_pow]
    rw [Bool.eq_iff_iff]
    simp only [Bool.or_eq_true, anyIx_true, decide_eq_true_eq]
    constructor
    · rintro (⟨k, hk, h⟩ | h)
      · exact ⟨k, by omega, h⟩
      · exact ⟨n, by omega, h⟩
    · rintro ⟨k, hk, h⟩
      by_cases e : k = n
      · subst e; exact .inr h
      · exact .inl ⟨k, by omega, h⟩

theorem and_ne_zero (x y : Nat) : x &&& y ≠ 0 ↔ ∃ p, x.testBit p = true ∧ y.testBit p = true := by
  constructor
  · intro h
    obtain ⟨p, hp⟩ := Nat.exists_testBit_of_ne_zero h
    rw [Nat.testBit_and] at hp
    exact ⟨p, by simpa using hp⟩
  · rintro ⟨p, h1, h2⟩ h
    have : (x &&& y).testBit p = true := by rw [Nat.testBit_and, h1, h2]; rfl
    rw [h] at this
    simp at this

/-- A signal's bits lie within eight bytes. -/
def Sg.Fits (s : Sg) : Prop := ∀ i : Int, 0 ≤ i → i < s.ln → place s.st s.ln s.od i ≤ 63

theorem share_bits (a b : Sg) (ha : a.Ok) (hb : b.Ok) : (layTo a.st a.ln a.od (-1) a.ln.toNat &&& layTo b.st b.ln b.od (-1) b.ln.toNat ≠ 0) ↔ shareB a b = true := by
  have la := ha.ln1
  have lb := hb.ln1
  rw [and_ne_zero, shareB, anyIx_true]
  constructor
  · rintro ⟨p, h1, h2⟩
    rw [layTo_bit _ _ _ _ _ (by omega), anyIx_true] at h1 h2
    obtain ⟨i, hi, hip⟩ := h1
    obtain ⟨j, hj, hjp⟩ := h2
    refine ⟨i, hi, ?_⟩
    rw [anyIx_true]
    refine ⟨j, hj, ?_⟩
    have p1 := place_lo a.st a.ln a.od i ha.st0 (by omega) (by omega)
    have p2 := place_lo b.st b.ln b.od j hb.st0 (by omega) (by omega)
    simp only [decide_eq_true_eq] at hip hjp ⊢
    omega
  · rintro ⟨i, hi, h⟩
    rw [anyIx_true] at h
    obtain ⟨j, hj, hij⟩ := h
    refine ⟨(place a.st a.ln a.od i).toNat, ?_, ?_⟩
    · rw [layTo_bit _ _ _ _ _ (by omega), anyIx_true]; exact ⟨i, hi, by simp⟩
    · rw [layTo_bit _ _ _ _ _ (by omega), anyIx_true]; exact ⟨j, hj, by simp only [decide_eq_true_eq] at hij ⊢; rw [hij]⟩

theorem share_test (a b : Sg) (ha : a.Ok) (hb : b.Ok) (fa : a.Fits) (fb : b.Fits) :
    (bits BinOp.and IntKind.u64 (layTo b.st b.ln b.od (-1) b.ln.toNat : Int) (layTo a.st a.ln a.od (-1) a.ln.toNat : Int) != 0) = shareB a b := by
  have la := ha.ln0
  have lb := hb.ln0
  have h1 := layTo_lt a.st a.ln a.od (-1) a.ln.toNat (fun i h h' => ⟨place_lo _ _ _ _ ha.st0 h (by omega), fa i h (by omega)⟩)
  have h2 := layTo_lt b.st b.ln b.od (-1) b.ln.toNat (fun i h h' => ⟨place_lo _ _ _ _ hb.st0 h (by omega), fb i h (by omega)⟩)
  rw [u64_and_nat _ _ h2 h1, Nat.and_comm, Bool.eq_iff_iff, ← share_bits a b ha hb, bne_iff_ne]
  omega

/-- The seven cells of an element of a slice of signals. -/
theorem cells7 {w wr : World} {g k : Nat} {L : List Sg} (hc : ∀ k j, k < L.length → j < 7 → w.cell? ⟨g, k * 7 + j, none⟩ = (sgAt L k).cells[j]?) (hg : g < w.heap.size) (hb : Below w.heap.size w wr) (hk : k < L.length) :
    wr.cell? ⟨g, k * 7, none⟩ = some (.int .i64 (sgAt L k).pl) ∧ wr.cell? ⟨g, k * 7 + 1, none⟩ = some (.int .u8 (sgAt L k).nm) ∧ wr.cell? ⟨g, k * 7 + 2, none⟩ = some (.int .i64 (sgAt L k).st) ∧
    wr.cell? ⟨g, k * 7 + 3, none⟩ = some (.int .i64 (sgAt L k).ln) ∧ wr.cell? ⟨g, k * 7 + 4, none⟩ = some (.int .u8 (sgAt L k).od) ∧ wr.cell? ⟨g, k * 7 + 5, none⟩ = some (.int .u8 (sgAt L k).kd) ∧
    wr.cell? ⟨g, k * 7 + 6, none⟩ = some (.int .u8 (sgAt L k).rl) := by
  have h : ∀ j, j < 7 → wr.cell? ⟨g, k * 7 + j, none⟩ = (sgAt L k).cells[j]? := fun j hj => by
    rw [hb.cell (p := ⟨g, k * 7 + j, none⟩) hg]; exact hc k j hk hj
  exact ⟨h 0 (by omega), h 1 (by omega), h 2 (by omega), h 3 (by omega), h 4 (by omega), h 5 (by omega), h 6 (by omega)⟩

set_option maxHeartbeats 1000000 in
theorem sharesWithAny_any (v : Value) (L : List Sg) (s : Sg) (w : World) (h : SigsAt w v L) (hl : L.length ≤ 8) (hok : ∀ k, k < L.length → (sgAt L k).Ok ∧ (sgAt L k).Fits) (hs : s.Ok) (hf : s.Fits) :
    Calls Try.prog 65 #[v, .agg #[.int .i64 s.pl, .int .u8 s.nm, .int .i64 s.st, .int .i64 s.ln, .int .u8 s.od, .int .u8 s.kd, .int .u8 s.rl]] w
      fun e w' => e = .returned (.bool (anyIx (fun k => shareB (sgAt L k) s && meetB (sgAt L k).rl s.rl) L.length)) ∧ Below w.heap.size w w' := by
  have HOK := hide hok
  have HS := hide hs
  have HF := hide hf
  have HH := hide h
  clear hok hs hf h
  rcases (unhide HH).opened with ⟨rfl, a, c, rfl⟩ | ⟨g, cap, rfl, hg, hcap, _, hc⟩
  · go_enter Try.func65, Try.ntmps65
    go_wp2_with fail
    refine (layBits_any s.pl s.nm s.st s.ln s.od s.kd s.rl (-1) _ (unhide HS).st0 (unhide HS).st1 (unhide HS).ln0 (unhide HS).ln1 (unhide HS).od (unhide HF)).mono ?_
    rintro e w1 ⟨rfl, hb1⟩
    go_wp2
    refine wp_loop_rounds 1 ?_
    rw [rounds_succ]
    go_wp2
    go_ret
    exact ⟨ret_bool (by simp [anyIx]), ((Below.refl _ _).alloc (Nat.le_refl _) _).trans (hb1.mono (by simp))⟩
  · have HC := hide hc
    clear hc
    go_enter Try.func65, Try.ntmps65
    go_wp2_with fail
    refine (layBits_any s.pl s.nm s.st s.ln s.od s.kd s.rl (-1) _ (unhide HS).st0 (unhide HS).st1 (unhide HS).ln0 (unhide HS).ln1 (unhide HS).od (unhide HF)).mono ?_
    rintro e w1 ⟨rfl, hb1⟩
    have hb1' : Below (w.heap.size + 1) (w.alloc (.cells #[.int .i64 s.pl, .int .u8 s.nm, .int .i64 s.st, .int .i64 s.ln, .int .u8 s.od, .int .u8 s.kd, .int .u8 s.rl] 73)) w1 := hb1.mono (by simp)
    have HB1 := hide hb1'
    clear hb1 hb1'
    go_wp2
    go_loopw [6, 7] (fun i _ wr => ∃ k : Nat, k ≤ L.length ∧ i = .int .i64 k ∧ (∀ j, j < k → (shareB (sgAt L j) s && meetB (sgAt L j).rl s.rl) = false) ∧
      Below (w.heap.size + 1) (w.alloc (.cells #[.int .i64 s.pl, .int .u8 s.nm, .int .i64 s.st, .int .i64 s.ln, .int .u8 s.od, .int .u8 s.kd, .int .u8 s.rl] 73)) wr) (fun i _ _ => L.length - (intOf i).toNat)
    case atStart => exact ⟨0, by omega, rfl, by intro j hj; omega, unhide HB1⟩
    case round =>
      obtain ⟨k, hk, rfl, hno, hb⟩ := hrel
      have HN := hide hno
      have HB := hide hb
      have hx := box_cell hb
      have hbw := box_below hb
      have HBW := hide hbw
      clear hb hno hbw
      by_cases hlt : k < L.length
      · obtain ⟨c0, c1, c2, c3, c4, c5, c6⟩ := cells7 (unhide HC) hg (unhide HBW) hlt
        have ok := (unhide HOK k hlt).1
        have ft := (unhide HOK k hlt).2
        have OK := hide ok
        have FT := hide ft
        clear ok ft
        go_wp2_with fail
        refine (layBits_any _ _ (sgAt L k).st (sgAt L k).ln (sgAt L k).od _ _ (-1) _ (unhide OK).st0 (unhide OK).st1 (unhide OK).ln0 (unhide OK).ln1 (unhide OK).od (unhide FT)).mono ?_
        rintro e w2 ⟨rfl, hb2⟩
        have hb2' := box_next (unhide HB) hb2
        have HB2 := hide hb2'
        have HBW2 := hide (box_below hb2')
        clear hx c0 c1 c2 c3 c4 c5 c6 hb2 hb2'
        have hx := fun (wx : World) (h : Below (w.heap.size + 1) (w.alloc (.cells #[.int .i64 s.pl, .int .u8 s.nm, .int .i64 s.st, .int .i64 s.ln, .int .u8 s.od, .int .u8 s.kd, .int .u8 s.rl] 73)) wx) => box_cell h
        have c0 := fun (wx : World) (h : Below (w.heap.size + 1) (w.alloc (.cells #[.int .i64 s.pl, .int .u8 s.nm, .int .i64 s.st, .int .i64 s.ln, .int .u8 s.od, .int .u8 s.kd, .int .u8 s.rl] 73)) wx) => cells7 (unhide HC) hg (box_below h) hlt
        have ht := share_test (sgAt L k) s (unhide OK) (unhide HS) (unhide FT) (unhide HF)
        cases hsh : shareB (sgAt L k) s with
        | false =>
          rw [hsh] at ht
          have HSH := hide hsh
          clear hsh
          go_wp2
          refine wp_region_noPanic ?_
          refine wp_region_held_drew (S := fun w' => Below (w.heap.size + 1) (w.alloc (.cells #[.int .i64 s.pl, .int .u8 s.nm, .int .i64 s.st, .int .i64 s.ln, .int .u8 s.od, .int .u8 s.kd, .int .u8 s.rl] 73)) w') (by kernel_rfl) (unhide HB2).drew (fun hHeld => ?_)
          refine wpAnyH_take (i := 0) (v := ?_) (at_list rfl) (by kernel_rfl) (by kernel_rfl) (by kernel_rfl) (fun _ _ _ h => h) (Or.inl ⟨by rfl, ?_⟩) (by assumption) ?_
          rotate_left
          · intro w hSw; (try dsimp only at hSw); first | (go_simp; done) | (go_simp; with_reducible rfl)
          try simp only [Act.put]
          try simp only [List.setIfInBounds_toArray]
          try simp only [List.set_cons_succ]
          try simp only [List.set_cons_zero]
          refine wpAnyH_take (i := 1) (v := ?_) (at_list rfl) (by kernel_rfl) (by kernel_rfl) (by kernel_rfl) (fun _ _ _ h => h) (Or.inl ⟨by rfl, ?_⟩) (by assumption) ?_
          rotate_left
          · intro w hSw; (try dsimp only at hSw); first | (go_simp; done) | (go_simp; with_reducible rfl)
          try simp only [Act.put]
          try simp only [List.setIfInBounds_toArray]
          try simp only [List.set_cons_succ]
          try simp only [List.set_cons_zero]
          refine wpAnyH_take (i := 2) (v := ?_) (at_list rfl) (by kernel_rfl) (by kernel_rfl) (by kernel_rfl) (fun _ _ _ h => h) (Or.inl ⟨by rfl, ?_⟩) (by assumption) ?_
          rotate_left
          · intro w hSw; (try dsimp only at hSw); first | (go_simp; done) | (go_simp; with_reducible rfl)
          try simp only [Act.put]
          try simp only [List.setIfInBounds_toArray]
          try simp only [List.set_cons_succ]
          try simp only [List.set_cons_zero]
          refine wpAnyH_take (i := 3) (v := ?_) (at_list rfl) (by kernel_rfl) (by kernel_rfl) (by kernel_rfl) (fun _ _ _ h => h) (Or.inl ⟨by rfl, ?_⟩) (by assumption) ?_
          rotate_left
          · intro w hSw; (try dsimp only at hSw); first | (go_simp; done) | (go_simp; with_reducible rfl)
          try simp only [Act.put]
          try simp only [List.setIfInBounds_toArray]
          try simp only [List.set_cons_succ]
          try simp only [List.set_cons_zero]
          refine wpAnyH_take (i := 4) (v := ?_) (at_list rfl) (by kernel_rfl) (by kernel_rfl) (by kernel_rfl) (fun _ _ _ h => h) (Or.inl ⟨by rfl, ?_⟩) (by assumption) ?_
          rotate_left
          · intro w hSw; (try dsimp only at hSw); first | (go_simp; done) | (go_simp; with_reducible rfl)
          try simp only [Act.put]
          try simp only [List.setIfInBounds_toArray]
          try simp only [List.set_cons_succ]
          try simp only [List.set_cons_zero]
          refine wpAnyH_take (i := 5) (v := undef) (at_list rfl) (by kernel_rfl) (by kernel_rfl) (by kernel_rfl) (fun _ _ _ h => h) (Or.inr ⟨by rfl, rfl⟩) (by assumption) ?_
          try simp only [Act.put]
          try simp only [List.setIfInBounds_toArray]
          try simp only [List.set_cons_succ]
          try simp only [List.set_cons_zero]
          refine wpAnyH_take (i := 6) (v := undef) (at_list rfl) (by kernel_rfl) (by kernel_rfl) (by kernel_rfl) (fun _ _ _ h => h) (Or.inr ⟨by rfl, rfl⟩) (by assumption) ?_
          try simp only [Act.put]
          try simp only [List.setIfInBounds_toArray]
          try simp only [List.set_cons_succ]
          try simp only [List.set_cons_zero]
          refine wpAnyH_take (i := 7) (v := undef) (at_list rfl) (by kernel_rfl) (by kernel_rfl) (by kernel_rfl) (fun _ _ _ h => h) (Or.inr ⟨by rfl, rfl⟩) (by assumption) ?_
          try simp only [Act.put]
          try simp only [List.setIfInBounds_toArray]
          try simp only [List.set_cons_succ]
          try simp only [List.set_cons_zero]
          refine wpAnyH_take (i := 8) (v := undef) (at_list rfl) (by kernel_rfl) (by kernel_rfl) (by kernel_rfl) (fun _ _ _ h => h) (Or.inr ⟨by rfl, rfl⟩) (by assumption) ?_
          try simp only [Act.put]
          try simp only [List.setIfInBounds_toArray]
          try simp only [List.set_cons_succ]
          try simp only [List.set_cons_zero]
          refine wpAnyH_take (i := 9) (v := undef) (at_list rfl) (by kernel_rfl) (by kernel_rfl) (by kernel_rfl) (fun _ _ _ h => h) (Or.inr ⟨by rfl, rfl⟩) (by assumption) ?_
          try simp only [Act.put]
          try simp only [List.setIfInBounds_toArray]
          try simp only [List.set_cons_succ]
          try simp only [List.set_cons_zero]
          refine wpAnyH_take (i := 10) (v := undef) (at_list rfl) (by kernel_rfl) (by kernel_rfl) (by kernel_rfl) (fun _ _ _ h => h) (Or.inr ⟨by rfl, rfl⟩) (by assumption) ?_
          try simp only [Act.put]
          try simp only [List.setIfInBounds_toArray]
          try simp only [List.set_cons_succ]
          try simp only [List.set_cons_zero]
          refine wpAnyH_take (i := 11) (v := ?_) (at_list rfl) (by kernel_rfl) (by kernel_rfl) (by kernel_rfl) (fun _ _ _ h => h) (Or.inl ⟨by rfl, ?_⟩) (by assumption) ?_
          rotate_left
          · intro w hSw; (try dsimp only at hSw); first | (go_simp; done) | (go_simp; with_reducible rfl)
          try simp only [Act.put]
          try simp only [List.setIfInBounds_toArray]
          try simp only [List.set_cons_succ]
          try simp only [List.set_cons_zero]
          refine wpAnyH_done (by kernel_rfl) ?_ _
          refine NoPanic.normal ?_
          have HH2 := hide hHeld
          clear hHeld
          go_wp2
          go_roundw
          case rel => exact ⟨k + 1, by omega, by go_num, fun j hj => by
              by_cases e : j = k
              · subst e; rw [unhide HSH]; rfl
              · exact unhide HN j (by omega), unhide HH2⟩
          case measure => simp [intOf]; omega
        | true =>
          rw [hsh] at ht
          have HSH := hide hsh
          clear hsh
          cases hm : meetB (sgAt L k).rl s.rl with
          | false =>
            go_wp2
            refine wp_region_noPanic ?_
            refine wp_region_held_drew (S := fun w' => Below (w.heap.size + 1) (w.alloc (.cells #[.int .i64 s.pl, .int .u8 s.nm, .int .i64 s.st, .int .i64 s.ln, .int .u8 s.od, .int .u8 s.kd, .int .u8 s.rl] 73)) w') (by kernel_rfl) (unhide HB2).drew (fun hHeld => ?_)
            refine wpAnyH_take (i := 0) (v := ?_) (at_list rfl) (by kernel_rfl) (by kernel_rfl) (by kernel_rfl) (fun _ _ _ h => h) (Or.inl ⟨by rfl, ?_⟩) (by assumption) ?_
            rotate_left
            · intro w hSw; (try dsimp only at hSw); first | (go_simp; done) | (go_simp; with_reducible rfl)
            try simp only [Act.put]
            try simp only [List.setIfInBounds_toArray]
            try simp only [List.set_cons_succ]
            try simp only [List.set_cons_zero]
            refine wpAnyH_take (i := 1) (v := ?_) (at_list rfl) (by kernel_rfl) (by kernel_rfl) (by kernel_rfl) (fun _ _ _ h => h) (Or.inl ⟨by rfl, ?_⟩) (by assumption) ?_
            rotate_left
            · intro w hSw; (try dsimp only at hSw); first | (go_simp; done) | (go_simp; with_reducible rfl)
            try simp only [Act.put]
            try simp only [List.setIfInBounds_toArray]
            try simp only [List.set_cons_succ]
            try simp only [List.set_cons_zero]
            refine wpAnyH_take (i := 2) (v := ?_) (at_list rfl) (by kernel_rfl) (by kernel_rfl) (by kernel_rfl) (fun _ _ _ h => h) (Or.inl ⟨by rfl, ?_⟩) (by assumption) ?_
            rotate_left
            · intro w hSw; (try dsimp only at hSw); first | (go_simp; done) | (go_simp; with_reducible rfl)
            try simp only [Act.put]
            try simp only [List.setIfInBounds_toArray]
            try simp only [List.set_cons_succ]
            try simp only [List.set_cons_zero]
            refine wpAnyH_take (i := 3) (v := ?_) (at_list rfl) (by kernel_rfl) (by kernel_rfl) (by kernel_rfl) (fun _ _ _ h => h) (Or.inl ⟨by rfl, ?_⟩) (by assumption) ?_
            rotate_left
            · intro w hSw; (try dsimp only at hSw); first | (go_simp; done) | (go_simp; with_reducible rfl)
            try simp only [Act.put]
            try simp only [List.setIfInBounds_toArray]
            try simp only [List.set_cons_succ]
            try simp only [List.set_cons_zero]
            refine wpAnyH_take (i := 4) (v := ?_) (at_list rfl) (by kernel_rfl) (by kernel_rfl) (by kernel_rfl) (fun _ _ _ h => h) (Or.inl ⟨by rfl, ?_⟩) (by assumption) ?_
            rotate_left
            · intro w hSw; (try dsimp only at hSw); first | (go_simp; done) | (go_simp; with_reducible rfl)
            try simp only [Act.put]
            try simp only [List.setIfInBounds_toArray]
            try simp only [List.set_cons_succ]
            try simp only [List.set_cons_zero]
            refine wpAnyH_take (i := 5) (v := ?_) (at_list rfl) (by kernel_rfl) (by kernel_rfl) (by kernel_rfl) (fun _ _ _ h => h) (Or.inl ⟨by rfl, ?_⟩) (by assumption) ?_
            rotate_left
            · intro w hSw; (try dsimp only at hSw); first | (go_simp; done) | (go_simp; with_reducible rfl)
            try simp only [Act.put]
            try simp only [List.setIfInBounds_toArray]
            try simp only [List.set_cons_succ]
            try simp only [List.set_cons_zero]
            refine wpAnyH_take (i := 6) (v := ?_) (at_list rfl) (by kernel_rfl) (by kernel_rfl) (by kernel_rfl) (fun _ _ _ h => h) (Or.inl ⟨by rfl, ?_⟩) (by assumption) ?_
            rotate_left
            · intro w hSw; (try dsimp only at hSw); first | (go_simp; done) | (go_simp; with_reducible rfl)
            try simp only [Act.put]
            try simp only [List.setIfInBounds_toArray]
            try simp only [List.set_cons_succ]
            try simp only [List.set_cons_zero]
            refine wpAnyH_take (i := 7) (v := ?_) (at_list rfl) (by kernel_rfl) (by kernel_rfl) (by kernel_rfl) (fun _ _ _ h => h) (Or.inl ⟨by rfl, ?_⟩) (by assumption) ?_
            rotate_left
            · intro w hSw; (try dsimp only at hSw); first | (go_simp; done) | (go_simp; with_reducible rfl)
            try simp only [Act.put]
            try simp only [List.setIfInBounds_toArray]
            try simp only [List.set_cons_succ]
            try simp only [List.set_cons_zero]
            refine wpAnyH_take (i := 8) (v := ?_) (at_list rfl) (by kernel_rfl) (by kernel_rfl) (by kernel_rfl) (fun _ _ _ h => h) (Or.inl ⟨by rfl, ?_⟩) (by assumption) ?_
            rotate_left
            · intro w hSw; (try dsimp only at hSw); first | (go_simp; done) | (go_simp; with_reducible rfl)
            try simp only [Act.put]
            try simp only [List.setIfInBounds_toArray]
            try simp only [List.set_cons_succ]
            try simp only [List.set_cons_zero]
            refine wpAnyH_take (i := 9) (v := ?_) (at_list rfl) (by kernel_rfl) (by kernel_rfl) (by kernel_rfl) (fun _ _ _ h => h) (Or.inl ⟨by rfl, ?_⟩) (by assumption) ?_
            rotate_left
            · intro w hSw; (try dsimp only at hSw); first | (go_simp; done) | (go_simp; with_reducible rfl)
            try simp only [Act.put]
            try simp only [List.setIfInBounds_toArray]
            try simp only [List.set_cons_succ]
            try simp only [List.set_cons_zero]
            refine wpAnyH_ready (rs := [10]) (by kernel_rfl) (by simp) ?_
            refine AllReadyH.cons (at_list rfl) (fun K hK => ?_) AllReadyH.nil
            go_simp
            refine (canMeet_any _ _ _ _ _ _ (sgAt L k).rl _ _ _ _ _ _ s.rl _).mono ?_; rintro e w3 ⟨rfl, hb3⟩; dsimp only
            refine hK.out _ _ (box_next hHeld hb3) (fun hHeld => ?_)
            clear hK K
            try simp only [Act.put]
            try simp only [List.setIfInBounds_toArray]
            try simp only [List.set_cons_succ]
            try simp only [List.set_cons_zero]
            refine wpAnyH_take (i := 11) (v := ?_) (at_list rfl) (by kernel_rfl) (by kernel_rfl) (by kernel_rfl) (fun _ _ _ h => h) (Or.inl ⟨by rfl, ?_⟩) (by assumption) ?_
            rotate_left
            · intro w hSw; (try dsimp only at hSw); first | (go_simp; done) | (go_simp; with_reducible rfl)
            try simp only [Act.put]
            try simp only [List.setIfInBounds_toArray]
            try simp only [List.set_cons_succ]
            try simp only [List.set_cons_zero]
            refine wpAnyH_done (by kernel_rfl) ?_ _
            refine NoPanic.normal ?_
            have HB3 := hide hHeld
            clear hHeld hb3
            go_wp2
            go_roundw
            case rel => exact ⟨k + 1, by omega, by go_num, fun j hj => by
                by_cases e : j = k
                · subst e; rw [hm]; simp
                · exact unhide HN j (by omega), unhide HB3⟩
            case measure => simp [intOf]; omega
          | true =>
            go_wp2
            refine wp_region_noPanic ?_
            refine wp_region_held_drew (S := fun w' => Below (w.heap.size + 1) (w.alloc (.cells #[.int .i64 s.pl, .int .u8 s.nm, .int .i64 s.st, .int .i64 s.ln, .int .u8 s.od, .int .u8 s.kd, .int .u8 s.rl] 73)) w') (by kernel_rfl) (unhide HB2).drew (fun hHeld => ?_)
            refine wpAnyH_take (i := 0) (v := ?_) (at_list rfl) (by kernel_rfl) (by kernel_rfl) (by kernel_rfl) (fun _ _ _ h => h) (Or.inl ⟨by rfl, ?_⟩) (by assumption) ?_
            rotate_left
            · intro w hSw; (try dsimp only at hSw); first | (go_simp; done) | (go_simp; with_reducible rfl)
            try simp only [Act.put]
            try simp only [List.setIfInBounds_toArray]
            try simp only [List.set_cons_succ]
            try simp only [List.set_cons_zero]
            refine wpAnyH_take (i := 1) (v := ?_) (at_list rfl) (by kernel_rfl) (by kernel_rfl) (by kernel_rfl) (fun _ _ _ h => h) (Or.inl ⟨by rfl, ?_⟩) (by assumption) ?_
            rotate_left
            · intro w hSw; (try dsimp only at hSw); first | (go_simp; done) | (go_simp; with_reducible rfl)
            try simp only [Act.put]
            try simp only [List.setIfInBounds_toArray]
            try simp only [List.set_cons_succ]
            try simp only [List.set_cons_zero]
            refine wpAnyH_take (i := 2) (v := ?_) (at_list rfl) (by kernel_rfl) (by kernel_rfl) (by kernel_rfl) (fun _ _ _ h => h) (Or.inl ⟨by rfl, ?_⟩) (by assumption) ?_
            rotate_left
            · intro w hSw; (try dsimp only at hSw); first | (go_simp; done) | (go_simp; with_reducible rfl)
            try simp only [Act.put]
            try simp only [List.setIfInBounds_toArray]
            try simp only [List.set_cons_succ]
            try simp only [List.set_cons_zero]
            refine wpAnyH_take (i := 3) (v := ?_) (at_list rfl) (by kernel_rfl) (by kernel_rfl) (by kernel_rfl) (fun _ _ _ h => h) (Or.inl ⟨by rfl, ?_⟩) (by assumption) ?_
            rotate_left
            · intro w hSw; (try dsimp only at hSw); first | (go_simp; done) | (go_simp; with_reducible rfl)
            try simp only [Act.put]
            try simp only [List.setIfInBounds_toArray]
            try simp only [List.set_cons_succ]
            try simp only [List.set_cons_zero]
            refine wpAnyH_take (i := 4) (v := ?_) (at_list rfl) (by kernel_rfl) (by kernel_rfl) (by kernel_rfl) (fun _ _ _ h => h) (Or.inl ⟨by rfl, ?_⟩) (by assumption) ?_
            rotate_left
            · intro w hSw; (try dsimp only at hSw); first | (go_simp; done) | (go_simp; with_reducible rfl)
            try simp only [Act.put]
            try simp only [List.setIfInBounds_toArray]
            try simp only [List.set_cons_succ]
            try simp only [List.set_cons_zero]
            refine wpAnyH_take (i := 5) (v := ?_) (at_list rfl) (by kernel_rfl) (by kernel_rfl) (by kernel_rfl) (fun _ _ _ h => h) (Or.inl ⟨by rfl, ?_⟩) (by assumption) ?_
            rotate_left
            · intro w hSw; (try dsimp only at hSw); first | (go_simp; done) | (go_simp; with_reducible rfl)
            try simp only [Act.put]
            try simp only [List.setIfInBounds_toArray]
            try simp only [List.set_cons_succ]
            try simp only [List.set_cons_zero]
            refine wpAnyH_take (i := 6) (v := ?_) (at_list rfl) (by kernel_rfl) (by kernel_rfl) (by kernel_rfl) (fun _ _ _ h => h) (Or.inl ⟨by rfl, ?_⟩) (by assumption) ?_
            rotate_left
            · intro w hSw; (try dsimp only at hSw); first | (go_simp; done) | (go_simp; with_reducible rfl)
            try simp only [Act.put]
            try simp only [List.setIfInBounds_toArray]
            try simp only [List.set_cons_succ]
            try simp only [List.set_cons_zero]
            refine wpAnyH_take (i := 7) (v := ?_) (at_list rfl) (by kernel_rfl) (by kernel_rfl) (by kernel_rfl) (fun _ _ _ h => h) (Or.inl ⟨by rfl, ?_⟩) (by assumption) ?_
            rotate_left
            · intro w hSw; (try dsimp only at hSw); first | (go_simp; done) | (go_simp; with_reducible rfl)
            try simp only [Act.put]
            try simp only [List.setIfInBounds_toArray]
            try simp only [List.set_cons_succ]
            try simp only [List.set_cons_zero]
            refine wpAnyH_take (i := 8) (v := ?_) (at_list rfl) (by kernel_rfl) (by kernel_rfl) (by kernel_rfl) (fun _ _ _ h => h) (Or.inl ⟨by rfl, ?_⟩) (by assumption) ?_
            rotate_left
            · intro w hSw; (try dsimp only at hSw); first | (go_simp; done) | (go_simp; with_reducible rfl)
            try simp only [Act.put]
            try simp only [List.setIfInBounds_toArray]
            try simp only [List.set_cons_succ]
            try simp only [List.set_cons_zero]
            refine wpAnyH_take (i := 9) (v := ?_) (at_list rfl) (by kernel_rfl) (by kernel_rfl) (by kernel_rfl) (fun _ _ _ h => h) (Or.inl ⟨by rfl, ?_⟩) (by assumption) ?_
            rotate_left
            · intro w hSw; (try dsimp only at hSw); first | (go_simp; done) | (go_simp; with_reducible rfl)
            try simp only [Act.put]
            try simp only [List.setIfInBounds_toArray]
            try simp only [List.set_cons_succ]
            try simp only [List.set_cons_zero]
            refine wpAnyH_ready (rs := [10]) (by kernel_rfl) (by simp) ?_
            refine AllReadyH.cons (at_list rfl) (fun K hK => ?_) AllReadyH.nil
            go_simp
            refine (canMeet_any _ _ _ _ _ _ (sgAt L k).rl _ _ _ _ _ _ s.rl _).mono ?_; rintro e w3 ⟨rfl, hb3⟩; dsimp only
            refine hK.out _ _ (box_next hHeld hb3) (fun hHeld => ?_)
            clear hK K
            try simp only [Act.put]
            try simp only [List.setIfInBounds_toArray]
            try simp only [List.set_cons_succ]
            try simp only [List.set_cons_zero]
            refine wpAnyH_take (i := 11) (v := ?_) (at_list rfl) (by kernel_rfl) (by kernel_rfl) (by kernel_rfl) (fun _ _ _ h => h) (Or.inl ⟨by rfl, ?_⟩) (by assumption) ?_
            rotate_left
            · intro w hSw; (try dsimp only at hSw); first | (go_simp; done) | (go_simp; with_reducible rfl)
            try simp only [Act.put]
            try simp only [List.setIfInBounds_toArray]
            try simp only [List.set_cons_succ]
            try simp only [List.set_cons_zero]
            refine wpAnyH_done (by kernel_rfl) ?_ _
            refine NoPanic.normal ?_
            have HB3 := hide hHeld
            clear hHeld hb3
            go_wp2
            go_ret
            exact ⟨ret_bool (by rw [anyIx_is (unhide HN) hlt (by rw [hm, unhide HSH]; rfl)]), box_below (unhide HB3)⟩
      · go_wp2
        go_ret
        exact ⟨ret_bool (by rw [anyIx_none (fun j hj => unhide HN j (by omega))]), unhide HBW⟩

end Go.Proofs.Ytljodhcfimklkab
