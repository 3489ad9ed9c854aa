import Derived.Test.YtljodhcfimklkabV1
namespace Go.Proofs.Ytljodhcfimklkab
open Go.RowKit

theorem bytes_put (N n b : Nat) : ((bytesL N n).map (Value.int .u8)).set (b / 8) (.int .u8 (byteOf (N ||| 2 ^ b) (b / 8))) = (bytesL (N ||| 2 ^ b) n).map (Value.int .u8) := by
  apply List.ext_getElem
  · simp [bytesL]
  · intro i h1 h2
    rw [List.getElem_set]
    simp [bytesL] at h2 ⊢
    split
    · rename_i e; subst e; rfl
    · rename_i e; rw [byteOf_other N b i (by omega)]

theorem shl_u8 (b : Nat) (w : World) : (Op.shift BinOp.shl IntKind.u8 1 IntKind.i64 ((b : Int).tmod 8)).run Try.prog w = .ok (.int .u8 (2 ^ (b % 8))) w := by
  have e : (b : Int).tmod 8 = ((b % 8 : Nat) : Int) := by rw [Int.tmod_eq_emod_of_nonneg (by omega)]; omega
  rw [e]
  have hd : b % 8 = 0 ∨ b % 8 = 1 ∨ b % 8 = 2 ∨ b % 8 = 3 ∨ b % 8 = 4 ∨ b % 8 = 5 ∨ b % 8 = 6 ∨ b % 8 = 7 := by omega
  rcases hd with h | h | h | h | h | h | h | h <;> rw [h] <;> rfl
theorem or_u8 (N b : Nat) : bits BinOp.or IntKind.u8 (byteOf N (b / 8) : Int) (2 ^ (b % 8)) = (byteOf (N ||| 2 ^ b) (b / 8) : Int) := by
  have h1 : 2 ^ (b % 8) < 256 := by
    have : 2 ^ (b % 8) ≤ 2 ^ 7 := Nat.pow_le_pow_right (by omega) (by omega)
    have e : (2 : Nat) ^ 7 = 128 := rfl
    omega
  have e : ((2 : Int) ^ (b % 8)) = ((2 ^ (b % 8) : Nat) : Int) := by simp
  rw [e, u8_or_nat _ _ (byteOf_lt N _) h1, byteOf_put]

set_option maxRecDepth 100000 in
set_option maxHeartbeats 1000000 in
theorem rPut_any (B g cap n N b : Nat) (w : World) (h : w.ownsRow B 5 1 (.slice (some ⟨g, 0, none⟩) n cap) n ((bytesL N n).map (Value.int .u8))) (hb : b < 8 * n) (hn : n ≤ 8) :
    Calls Try.prog 24 #[.slice (some ⟨g, 0, none⟩) n cap, .int .i64 b] w fun e w' => e = .returned (.tuple #[]) ∧ w'.ownsRow B 5 1 (.slice (some ⟨g, 0, none⟩) n cap) n ((bytesL (N ||| 2 ^ b) n).map (Value.int .u8)) ∧ w.grownBy w' (some g) := by
  have hq : b / 8 < n := by omega
  have hcell : w.cell? ⟨g, b / 8, none⟩ = some (.int .u8 (byteOf N (b / 8))) := by
    rw [h.cellAt (b / 8) (by omega)]
    simp [bytesL, hq]
  have hfree := h.frozenAt (b / 8)
  have HST := hide (h.stored (b / 8) (.int .u8 (byteOf (N ||| 2 ^ b) (b / 8))))
  have h0 : (0 : Int) ≤ (b : Int) := by omega
  have h1 : IntKind.i64.wrap ((b : Int) / 8) = (b : Int) / 8 := by rw [IntKind.wrap_i64]; omega
  have h3 : (0 : Int) ≤ (b : Int) / 8 := by omega
  have h4 : (b : Int) / 8 < (n : Int) := by omega
  have h5 : ((b : Int) / 8).toNat = b / 8 := by omega
  have hsh := shl_u8 b
  have hor := or_u8 N b
  have HH := hide h
  clear h
  go_enter Try.func24, Try.ntmps24
  go_wp2
  refine wp_region_noPanic ?_
  refine wp_region_held_drew (S := fun _ => True) (by kernel_rfl) trivial (fun hHeld => ?_)
  refine wpAnyH_take (i := 0) (v := ?_) (at_list rfl) (by kernel_rfl) (by kernel_rfl) (by kernel_rfl) (fun _ _ _ h => h) (Or.inl ⟨by rfl, ?_⟩) (by assumption) ?_
  rotate_left
  · intro w hSw; (try dsimp only at hSw); first | (go_simp; done) | (go_simp; with_reducible rfl)
  try simp only [Act.put]
  try simp only [List.setIfInBounds_toArray]
  try simp only [List.set_cons_succ]
  try simp only [List.set_cons_zero]
  refine wpAnyH_take (i := 1) (v := ?_) (at_list rfl) (by kernel_rfl) (by kernel_rfl) (by kernel_rfl) (fun _ _ _ h => h) (Or.inl ⟨by rfl, ?_⟩) (by assumption) ?_
  rotate_left
  · intro w hSw; (try dsimp only at hSw); first | (go_simp; done) | (go_simp; with_reducible rfl)
  try simp only [Act.put]
  try simp only [List.setIfInBounds_toArray]
  try simp only [List.set_cons_succ]
  try simp only [List.set_cons_zero]
  refine wpAnyH_take (i := 2) (v := ?_) (at_list rfl) (by kernel_rfl) (by kernel_rfl) (by kernel_rfl) (fun _ _ _ h => h) (Or.inl ⟨by rfl, ?_⟩) (by assumption) ?_
  rotate_left
  · intro w hSw; (try dsimp only at hSw); first | (go_simp; done) | (go_simp; with_reducible rfl)
  try simp only [Act.put]
  try simp only [List.setIfInBounds_toArray]
  try simp only [List.set_cons_succ]
  try simp only [List.set_cons_zero]
  refine wpAnyH_take (i := 3) (v := ?_) (at_list rfl) (by kernel_rfl) (by kernel_rfl) (by kernel_rfl) (fun _ _ _ h => h) (Or.inl ⟨by rfl, ?_⟩) (by assumption) ?_
  rotate_left
  · intro w hSw; (try dsimp only at hSw); first | (go_simp; done) | (go_simp; with_reducible rfl)
  try simp only [Act.put]
  try simp only [List.setIfInBounds_toArray]
  try simp only [List.set_cons_succ]
  try simp only [List.set_cons_zero]
  refine wpAnyH_take (i := 4) (v := ?_) (at_list rfl) (by kernel_rfl) (by kernel_rfl) (by kernel_rfl) (fun _ _ _ h => h) (Or.inl ⟨by rfl, ?_⟩) (by assumption) ?_
  rotate_left
  · intro w hSw; (try dsimp only at hSw); first | (go_simp; done) | (go_simp; with_reducible rfl)
  try simp only [Act.put]
  try simp only [List.setIfInBounds_toArray]
  try simp only [List.set_cons_succ]
  try simp only [List.set_cons_zero]
  refine wpAnyH_take (i := 5) (v := ?_) (at_list rfl) (by kernel_rfl) (by kernel_rfl) (by kernel_rfl) (fun _ _ _ h => h) (Or.inl ⟨by rfl, ?_⟩) (by assumption) ?_
  rotate_left
  · intro w hSw; (try dsimp only at hSw); first | (go_simp; done) | (go_simp; with_reducible rfl)
  try simp only [Act.put]
  try simp only [List.setIfInBounds_toArray]
  try simp only [List.set_cons_succ]
  try simp only [List.set_cons_zero]
  refine wpAnyH_take (i := 6) (v := ?_) (at_list rfl) (by kernel_rfl) (by kernel_rfl) (by kernel_rfl) (fun _ _ _ h => h) (Or.inl ⟨by rfl, ?_⟩) (by assumption) ?_
  rotate_left
  · intro w hSw; (try dsimp only at hSw); first | (go_simp; done) | (go_simp; with_reducible rfl)
  try simp only [Act.put]
  try simp only [List.setIfInBounds_toArray]
  try simp only [List.set_cons_succ]
  try simp only [List.set_cons_zero]
  refine wpAnyH_take (i := 8) (v := ?_) (at_list rfl) (by kernel_rfl) (by kernel_rfl) (by kernel_rfl) (fun _ _ _ h => h) (Or.inl ⟨by rfl, ?_⟩) (by assumption) ?_
  rotate_left
  · intro w hSw; (try dsimp only at hSw); first | (go_simp; done) | (go_simp; with_reducible rfl)
  try simp only [Act.put]
  try simp only [List.setIfInBounds_toArray]
  try simp only [List.set_cons_succ]
  try simp only [List.set_cons_zero]
  refine wpAnyH_take (i := 9) (v := ?_) (at_list rfl) (by kernel_rfl) (by kernel_rfl) (by kernel_rfl) (fun _ _ _ h => h) (Or.inl ⟨by rfl, ?_⟩) (by assumption) ?_
  rotate_left
  · intro w hSw; (try dsimp only at hSw); first | (go_simp; done) | (go_simp; with_reducible rfl)
  try simp only [Act.put]
  try simp only [List.setIfInBounds_toArray]
  try simp only [List.set_cons_succ]
  try simp only [List.set_cons_zero]
  refine wpAnyH_take (i := 10) (v := ?_) (at_list rfl) (by kernel_rfl) (by kernel_rfl) (by kernel_rfl) (fun _ _ _ h => h) (Or.inl ⟨by rfl, ?_⟩) (by assumption) ?_
  rotate_left
  · intro w hSw; (try dsimp only at hSw); first | (go_simp; done) | (go_simp; with_reducible rfl)
  try simp only [Act.put]
  try simp only [List.setIfInBounds_toArray]
  try simp only [List.set_cons_succ]
  try simp only [List.set_cons_zero]
  refine wpAnyH_ready (rs := [7]) (by kernel_rfl) (by simp) ?_
  refine AllReadyH.cons (at_list rfl) (fun K hK => ?_) AllReadyH.nil
  go_simp
  refine hK.out _ _ (trivial) (fun hHeld => ?_)
  clear hK K
  try simp only [Act.put]
  try simp only [List.setIfInBounds_toArray]
  try simp only [List.set_cons_succ]
  try simp only [List.set_cons_zero]
  refine wpAnyH_take (i := 11) (v := ?_) (at_list rfl) (by kernel_rfl) (by kernel_rfl) (by kernel_rfl) (fun _ _ _ h => h) (Or.inl ⟨by rfl, ?_⟩) (by assumption) ?_
  rotate_left
  · intro w hSw; (try dsimp only at hSw); first | (go_simp; done) | (go_simp; with_reducible rfl)
  try simp only [Act.put]
  try simp only [List.setIfInBounds_toArray]
  try simp only [List.set_cons_succ]
  try simp only [List.set_cons_zero]
  refine wpAnyH_take (i := 12) (v := ?_) (at_list rfl) (by kernel_rfl) (by kernel_rfl) (by kernel_rfl) (fun _ _ _ h => h) (Or.inl ⟨by rfl, ?_⟩) (by assumption) ?_
  rotate_left
  · intro w hSw; (try dsimp only at hSw); first | (go_simp; done) | (go_simp; with_reducible rfl)
  try simp only [Act.put]
  try simp only [List.setIfInBounds_toArray]
  try simp only [List.set_cons_succ]
  try simp only [List.set_cons_zero]
  refine wpAnyH_ready (rs := [13]) (by kernel_rfl) (by simp) ?_
  refine AllReadyH.cons (at_list rfl) (fun K hK => ?_) AllReadyH.nil
  go_simp
  refine hK.out _ _ (trivial) (fun hHeld => ?_)
  clear hK K
  try simp only [Act.put]
  try simp only [List.setIfInBounds_toArray]
  try simp only [List.set_cons_succ]
  try simp only [List.set_cons_zero]
  refine wpAnyH_done (by kernel_rfl) ?_ _
  refine NoPanic.normal ?_
  go_wp2
  go_end0
  refine ⟨rfl, ?_, ?_⟩
  · have := (unhide HST).1
    rw [bytes_put] at this
    exact this
  · have := (unhide HST).2
    exact ⟨this.os, this.tape, this.output, this.size, this.block⟩

set_option maxHeartbeats 400000 in
theorem rChosen_any (id : ByteArray) (sz pl : Int) (v vz : Value) (L : List Sg) (Z : List Int) (w : World) (h : RSigsAt w v L) (hl : L.length ≤ 8) (hz : IntsAt w vz Z) (hlen : Z.length = L.length) :
    Calls Try.prog 20 #[.agg #[.string id, .int .i64 sz, v, .int .i64 pl], vz] w fun e w' => e = .returned (.int .i64 (choiceOf L Z)) ∧ Below w.heap.size w w' := by
  obtain ⟨a, cap, rfl⟩ := ownsRow_form h
  have HH := hide h
  have HZ := hide hz
  obtain ⟨za, zcap, rfl, hz1, hz2, hz3⟩ := hz
  have HN := hide hz2
  have HC := hide hz3
  clear h hz2 hz3
  have hle1 : Z.length ≤ L.length := by omega
  have hle2 : L.length ≤ Z.length := by omega
  clear hlen
  go_enter Try.func20, Try.ntmps20
  go_wp2_with fail
  refine (rMux_any id sz pl _ L _ (ownsRow_below (unhide HH) ((Below.refl _ _).alloc (Nat.le_refl _) _)) hl).mono ?_
  rintro e w2 ⟨rfl, hb2⟩
  have HB2 := hide (((Below.refl _ _).alloc (Nat.le_refl _) _).trans (hb2.mono (by simp)))
  clear hb2
  rcases mux_range L with hmx | ⟨x, hx, hmx, _⟩
  · have HCH := hide (show choiceOf L Z = 0 by rw [choiceOf, hmx]; rfl)
    rw [hmx]
    clear hmx
    go_wp2
    go_ret
    exact ⟨ret_int (by rw [unhide HCH]), unhide HB2⟩
  · have hchx : choiceOf L Z = zAt Z x := by rw [choiceOf, hmx, if_pos (by omega), Int.toNat_natCast]
    have HCH := hide hchx
    rw [hmx]
    have hi1 : (x : Int) < (Z.length : Int) := by omega
    cases za with
    | none => have := unhide HN rfl; omega
    | some xa =>
      have hzc := ints_cell (unhide HC xa rfl) (unhide HB2) (show x < Z.length by omega)
      clear hchx hmx
      go_wp2
      go_ret
      exact ⟨ret_int (by rw [unhide HCH]), unhide HB2⟩

end Go.Proofs.Ytljodhcfimklkab
