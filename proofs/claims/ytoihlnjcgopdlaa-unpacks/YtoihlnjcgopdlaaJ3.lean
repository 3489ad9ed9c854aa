import Derived.Test.YtoihlnjcgopdlaaJ2
namespace Go.Proofs.Ytoihlnjcgopdlaa
open Go.RowKit

def zAt (Z : List Int) (k : Nat) : Int := Z.getD k 0

/-- The slice value v reads, in w, as the numbers Z. -/
def IntsAt (w : World) (v : Value) (Z : List Int) : Prop :=
  ∃ a cap, v = .slice a Z.length cap ∧ Z.length ≤ cap ∧ (a = none → Z.length = 0) ∧ ∀ x, a = some x → (0 < Z.length → x.block < w.heap.size) ∧ ∀ i, i < Z.length → w.cell? (x.add i) = some (.int .i64 (zAt Z i))

theorem add_block (x : Addr) (i : Nat) : (x.add i).block = x.block := by unfold Addr.add; split <;> rfl

theorem IntsAt.below {w w' : World} {v : Value} {Z : List Int} (h : IntsAt w v Z) (hb : Below w.heap.size w w') : IntsAt w' v Z := by
  obtain ⟨a, cap, rfl, h1, h2, h3⟩ := h
  refine ⟨a, cap, rfl, h1, h2, fun x hx => ?_⟩
  obtain ⟨hlt, hc⟩ := h3 x hx
  refine ⟨fun h0 => Nat.lt_of_lt_of_le (hlt h0) hb.size, fun i hi => ?_⟩
  rw [hb.cell (p := x.add i) (by rw [add_block]; exact hlt (by omega))]; exact hc i hi

theorem ints_cell {w wr : World} {x : Addr} {Z : List Int} (h : (0 < Z.length → x.block < w.heap.size) ∧ ∀ i, i < Z.length → w.cell? (x.add i) = some (.int .i64 (zAt Z i))) (hb : Below w.heap.size w wr) {k : Nat} (hk : k < Z.length) : wr.cell? (x.add k) = some (.int .i64 (zAt Z k)) := by
  rw [hb.cell (p := x.add k) (by rw [add_block]; exact h.1 (by omega))]; exact h.2 k hk

def unfit (L : List Sg) (Z : List Int) (c : Int) (k : Nat) : Bool := activeB (sgAt L k).rl c && !fitsB (sgAt L k).kd (sgAt L k).ln (zAt Z k)
def firstUn (L : List Sg) (Z : List Int) (c : Int) : Int := findIx (unfit L Z c) L.length

/-- What the readers of a message's signals may take for granted of them. -/
def Good (L : List Sg) : Prop := L.length ≤ 8 ∧ ∀ k, k < L.length → (sgAt L k).Ok ∧ 0 ≤ (sgAt L k).rl ∧ (sgAt L k).rl ≤ 255

set_option maxRecDepth 100000 in
set_option maxHeartbeats 1000000 in
theorem firstUnfit_any (v vz : Value) (L : List Sg) (Z : List Int) (c : Int) (w : World) (h : SigsAt w v L) (hz : IntsAt w vz Z) (hlen : Z.length = L.length) (hg : Good L) :
    Calls Try.prog 41 #[v, vz, .int .i64 c] w fun e w' => e = .returned (.int .i64 (firstUn L Z c)) ∧ Below w.heap.size w w' := by
  have hl := hg.1
  have HOK := hide hg.2
  clear hg
  rcases h.opened with ⟨rfl, a, cc, rfl⟩ | ⟨g, cap, rfl, hgl, hcap, hcm, hc⟩
  · obtain ⟨za, zcap, rfl, hz1, hz2, hz3⟩ := hz
    clear hz3 hz2
    go_enter Try.func41, Try.ntmps41
    go_wp2
    refine wp_loop_rounds 1 ?_
    rw [rounds_succ]
    go_wp2
    go_ret
    exact ⟨ret_int (by simp [firstUn, findIx]), Below.refl _ _⟩
  · obtain ⟨za, zcap, rfl, hz1, hz2, hz3⟩ := hz
    have HC := hide hc
    have HZ2 := hide hz2
    have HZ3 := hide hz3
    have HLEN := hide hlen
    have hle1 : Z.length ≤ L.length := by omega
    have hle2 : L.length ≤ Z.length := by omega
    clear hc hz2 hz3 hlen h
    cases za with
    | none =>
      have h0 := unhide HZ2 rfl
      have hl0 : L.length ≤ 0 := by omega
      clear h0
      go_enter Try.func41, Try.ntmps41
      go_wp2
      refine wp_loop_rounds 1 ?_
      rw [rounds_succ]
      go_wp2
      go_ret
      exact ⟨ret_int (by have : L.length = 0 := by omega
                         rw [firstUn, this]; rfl), Below.refl _ _⟩
    | some x =>
      have HX := hide (unhide HZ3 x rfl)
      go_enter Try.func41, Try.ntmps41
      go_wp2
      go_loopw [7, 8] (fun i _ wr => ∃ k : Nat, k ≤ L.length ∧ i = .int .i64 k ∧ (∀ j, j < k → unfit L Z c j = false) ∧ Below w.heap.size w wr) (fun i _ _ => L.length - (intOf i).toNat)
      case atStart => exact ⟨0, by omega, rfl, by intro j hj; omega, Below.refl _ _⟩
      case round =>
        obtain ⟨k, hk, rfl, hno, hb⟩ := hrel
        have HN := hide hno
        clear hno
        by_cases hlt : k < L.length
        · have hc7 := fun (wx : World) (h : Below w.heap.size w wx) => cells7 (unhide HC) hgl h hlt
          have hzc := fun (wx : World) (h : Below w.heap.size w wx) => ints_cell (unhide HX) h (show k < Z.length by omega)
          have hi0 : (0 : Int) ≤ (k : Int) := by omega
          have hi1 : (k : Int) < (L.length : Int) := by omega
          have hi2 : (k : Int) < (Z.length : Int) := by omega
          obtain ⟨ok, r0, r1⟩ := unhide HOK k hlt
          have OK := hide ok
          have hcw := hc7 _ hb
          clear ok
          go_wp2_with fail
          refine (isActive_any _ _ _ _ _ _ (sgAt L k).rl c _ r0 r1).mono ?_
          rintro e w2 ⟨rfl, hb2⟩
          have hb2' := hb.trans (hb2.mono hb.size)
          clear hb2 hcw hb
          cases hac : activeB (sgAt L k).rl c with
          | false =>
            go_wp2
            refine wp_region_noPanic ?_
            refine wp_region_held_drew (S := fun w' => Below w.heap.size w w') (by kernel_rfl) hb2'.drew (fun hHeld => ?_)
            refine wpAnyH_take (i := 0) (v := ?_) (at_list rfl) (by kernel_rfl) (by kernel_rfl) (by kernel_rfl) (fun _ _ _ h => h) (Or.inl ⟨by rfl, ?_⟩) (by assumption) ?_
            rotate_left
            · intro w hSw; (try dsimp only at hSw); first | (go_simp; done) | (go_simp; with_reducible rfl)
            try simp only [Act.put]
            try simp only [List.setIfInBounds_toArray]
            try simp only [List.set_cons_succ]
            try simp only [List.set_cons_zero]
            refine wpAnyH_take (i := 1) (v := ?_) (at_list rfl) (by kernel_rfl) (by kernel_rfl) (by kernel_rfl) (fun _ _ _ h => h) (Or.inl ⟨by rfl, ?_⟩) (by assumption) ?_
            rotate_left
            · intro w hSw; (try dsimp only at hSw); first | (go_simp; done) | (go_simp; with_reducible rfl)
            try simp only [Act.put]
            try simp only [List.setIfInBounds_toArray]
            try simp only [List.set_cons_succ]
            try simp only [List.set_cons_zero]
            refine wpAnyH_take (i := 2) (v := undef) (at_list rfl) (by kernel_rfl) (by kernel_rfl) (by kernel_rfl) (fun _ _ _ h => h) (Or.inr ⟨by rfl, rfl⟩) (by assumption) ?_
            try simp only [Act.put]
            try simp only [List.setIfInBounds_toArray]
            try simp only [List.set_cons_succ]
            try simp only [List.set_cons_zero]
            refine wpAnyH_take (i := 3) (v := undef) (at_list rfl) (by kernel_rfl) (by kernel_rfl) (by kernel_rfl) (fun _ _ _ h => h) (Or.inr ⟨by rfl, rfl⟩) (by assumption) ?_
            try simp only [Act.put]
            try simp only [List.setIfInBounds_toArray]
            try simp only [List.set_cons_succ]
            try simp only [List.set_cons_zero]
            refine wpAnyH_take (i := 4) (v := undef) (at_list rfl) (by kernel_rfl) (by kernel_rfl) (by kernel_rfl) (fun _ _ _ h => h) (Or.inr ⟨by rfl, rfl⟩) (by assumption) ?_
            try simp only [Act.put]
            try simp only [List.setIfInBounds_toArray]
            try simp only [List.set_cons_succ]
            try simp only [List.set_cons_zero]
            refine wpAnyH_take (i := 5) (v := undef) (at_list rfl) (by kernel_rfl) (by kernel_rfl) (by kernel_rfl) (fun _ _ _ h => h) (Or.inr ⟨by rfl, rfl⟩) (by assumption) ?_
            try simp only [Act.put]
            try simp only [List.setIfInBounds_toArray]
            try simp only [List.set_cons_succ]
            try simp only [List.set_cons_zero]
            refine wpAnyH_take (i := 6) (v := undef) (at_list rfl) (by kernel_rfl) (by kernel_rfl) (by kernel_rfl) (fun _ _ _ h => h) (Or.inr ⟨by rfl, rfl⟩) (by assumption) ?_
            try simp only [Act.put]
            try simp only [List.setIfInBounds_toArray]
            try simp only [List.set_cons_succ]
            try simp only [List.set_cons_zero]
            refine wpAnyH_take (i := 7) (v := undef) (at_list rfl) (by kernel_rfl) (by kernel_rfl) (by kernel_rfl) (fun _ _ _ h => h) (Or.inr ⟨by rfl, rfl⟩) (by assumption) ?_
            try simp only [Act.put]
            try simp only [List.setIfInBounds_toArray]
            try simp only [List.set_cons_succ]
            try simp only [List.set_cons_zero]
            refine wpAnyH_take (i := 8) (v := undef) (at_list rfl) (by kernel_rfl) (by kernel_rfl) (by kernel_rfl) (fun _ _ _ h => h) (Or.inr ⟨by rfl, rfl⟩) (by assumption) ?_
            try simp only [Act.put]
            try simp only [List.setIfInBounds_toArray]
            try simp only [List.set_cons_succ]
            try simp only [List.set_cons_zero]
            refine wpAnyH_take (i := 9) (v := undef) (at_list rfl) (by kernel_rfl) (by kernel_rfl) (by kernel_rfl) (fun _ _ _ h => h) (Or.inr ⟨by rfl, rfl⟩) (by assumption) ?_
            try simp only [Act.put]
            try simp only [List.setIfInBounds_toArray]
            try simp only [List.set_cons_succ]
            try simp only [List.set_cons_zero]
            refine wpAnyH_take (i := 10) (v := undef) (at_list rfl) (by kernel_rfl) (by kernel_rfl) (by kernel_rfl) (fun _ _ _ h => h) (Or.inr ⟨by rfl, rfl⟩) (by assumption) ?_
            try simp only [Act.put]
            try simp only [List.setIfInBounds_toArray]
            try simp only [List.set_cons_succ]
            try simp only [List.set_cons_zero]
            refine wpAnyH_take (i := 11) (v := undef) (at_list rfl) (by kernel_rfl) (by kernel_rfl) (by kernel_rfl) (fun _ _ _ h => h) (Or.inr ⟨by rfl, rfl⟩) (by assumption) ?_
            try simp only [Act.put]
            try simp only [List.setIfInBounds_toArray]
            try simp only [List.set_cons_succ]
            try simp only [List.set_cons_zero]
            refine wpAnyH_take (i := 12) (v := ?_) (at_list rfl) (by kernel_rfl) (by kernel_rfl) (by kernel_rfl) (fun _ _ _ h => h) (Or.inl ⟨by rfl, ?_⟩) (by assumption) ?_
            rotate_left
            · intro w hSw; (try dsimp only at hSw); first | (go_simp; done) | (go_simp; with_reducible rfl)
            try simp only [Act.put]
            try simp only [List.setIfInBounds_toArray]
            try simp only [List.set_cons_succ]
            try simp only [List.set_cons_zero]
            refine wpAnyH_done (by kernel_rfl) ?_ _
            refine NoPanic.normal ?_
            clear hc7 hzc
            go_wp2
            go_roundw
            case rel => exact ⟨k + 1, by omega, by go_num, fun j hj => by
                by_cases e : j = k
                · subst e; rw [unfit, hac]; rfl
                · exact unhide HN j (by omega), by assumption⟩
            case measure => simp [intOf]; omega
          | true =>
            cases hfi : fitsB (sgAt L k).kd (sgAt L k).ln (zAt Z k) with
            | true =>
              go_wp2
              refine wp_region_noPanic ?_
              refine wp_region_held_drew (S := fun w' => Below w.heap.size w w') (by kernel_rfl) hb2'.drew (fun hHeld => ?_)
              refine wpAnyH_take (i := 0) (v := ?_) (at_list rfl) (by kernel_rfl) (by kernel_rfl) (by kernel_rfl) (fun _ _ _ h => h) (Or.inl ⟨by rfl, ?_⟩) (by assumption) ?_
              rotate_left
              · intro w hSw; (try dsimp only at hSw); first | (go_simp; done) | (go_simp; with_reducible rfl)
              try simp only [Act.put]
              try simp only [List.setIfInBounds_toArray]
              try simp only [List.set_cons_succ]
              try simp only [List.set_cons_zero]
              refine wpAnyH_take (i := 1) (v := ?_) (at_list rfl) (by kernel_rfl) (by kernel_rfl) (by kernel_rfl) (fun _ _ _ h => h) (Or.inl ⟨by rfl, ?_⟩) (by assumption) ?_
              rotate_left
              · intro w hSw; (try dsimp only at hSw); first | (go_simp; done) | (go_simp; with_reducible rfl)
              try simp only [Act.put]
              try simp only [List.setIfInBounds_toArray]
              try simp only [List.set_cons_succ]
              try simp only [List.set_cons_zero]
              refine wpAnyH_take (i := 2) (v := ?_) (at_list rfl) (by kernel_rfl) (by kernel_rfl) (by kernel_rfl) (fun _ _ _ h => h) (Or.inl ⟨by rfl, ?_⟩) (by assumption) ?_
              rotate_left
              · intro w hSw; (try dsimp only at hSw); first | (go_simp; done) | (go_simp; with_reducible rfl)
              try simp only [Act.put]
              try simp only [List.setIfInBounds_toArray]
              try simp only [List.set_cons_succ]
              try simp only [List.set_cons_zero]
              refine wpAnyH_take (i := 3) (v := ?_) (at_list rfl) (by kernel_rfl) (by kernel_rfl) (by kernel_rfl) (fun _ _ _ h => h) (Or.inl ⟨by rfl, ?_⟩) (by assumption) ?_
              rotate_left
              · intro w hSw; (try dsimp only at hSw); first | (go_simp; done) | (go_simp; with_reducible rfl)
              try simp only [Act.put]
              try simp only [List.setIfInBounds_toArray]
              try simp only [List.set_cons_succ]
              try simp only [List.set_cons_zero]
              refine wpAnyH_take (i := 4) (v := ?_) (at_list rfl) (by kernel_rfl) (by kernel_rfl) (by kernel_rfl) (fun _ _ _ h => h) (Or.inl ⟨by rfl, ?_⟩) (by assumption) ?_
              rotate_left
              · intro w hSw; (try dsimp only at hSw); first | (go_simp; done) | (go_simp; with_reducible rfl)
              try simp only [Act.put]
              try simp only [List.setIfInBounds_toArray]
              try simp only [List.set_cons_succ]
              try simp only [List.set_cons_zero]
              refine wpAnyH_take (i := 5) (v := ?_) (at_list rfl) (by kernel_rfl) (by kernel_rfl) (by kernel_rfl) (fun _ _ _ h => h) (Or.inl ⟨by rfl, ?_⟩) (by assumption) ?_
              rotate_left
              · intro w hSw; (try dsimp only at hSw); first | (go_simp; done) | (go_simp; with_reducible rfl)
              try simp only [Act.put]
              try simp only [List.setIfInBounds_toArray]
              try simp only [List.set_cons_succ]
              try simp only [List.set_cons_zero]
              refine wpAnyH_take (i := 6) (v := ?_) (at_list rfl) (by kernel_rfl) (by kernel_rfl) (by kernel_rfl) (fun _ _ _ h => h) (Or.inl ⟨by rfl, ?_⟩) (by assumption) ?_
              rotate_left
              · intro w hSw; (try dsimp only at hSw); first | (go_simp; done) | (go_simp; with_reducible rfl)
              try simp only [Act.put]
              try simp only [List.setIfInBounds_toArray]
              try simp only [List.set_cons_succ]
              try simp only [List.set_cons_zero]
              refine wpAnyH_take (i := 7) (v := ?_) (at_list rfl) (by kernel_rfl) (by kernel_rfl) (by kernel_rfl) (fun _ _ _ h => h) (Or.inl ⟨by rfl, ?_⟩) (by assumption) ?_
              rotate_left
              · intro w hSw; (try dsimp only at hSw); first | (go_simp; done) | (go_simp; with_reducible rfl)
              try simp only [Act.put]
              try simp only [List.setIfInBounds_toArray]
              try simp only [List.set_cons_succ]
              try simp only [List.set_cons_zero]
              refine wpAnyH_take (i := 8) (v := ?_) (at_list rfl) (by kernel_rfl) (by kernel_rfl) (by kernel_rfl) (fun _ _ _ h => h) (Or.inl ⟨by rfl, ?_⟩) (by assumption) ?_
              rotate_left
              · intro w hSw; (try dsimp only at hSw); first | (go_simp; done) | (go_simp; with_reducible rfl)
              try simp only [Act.put]
              try simp only [List.setIfInBounds_toArray]
              try simp only [List.set_cons_succ]
              try simp only [List.set_cons_zero]
              refine wpAnyH_take (i := 9) (v := ?_) (at_list rfl) (by kernel_rfl) (by kernel_rfl) (by kernel_rfl) (fun _ _ _ h => h) (Or.inl ⟨by rfl, ?_⟩) (by assumption) ?_
              rotate_left
              · intro w hSw; (try dsimp only at hSw); first | (go_simp; done) | (go_simp; with_reducible rfl)
              try simp only [Act.put]
              try simp only [List.setIfInBounds_toArray]
              try simp only [List.set_cons_succ]
              try simp only [List.set_cons_zero]
              refine wpAnyH_ready (rs := [10]) (by kernel_rfl) (by simp) ?_
              refine AllReadyH.cons (at_list rfl) (fun K hK => ?_) AllReadyH.nil
              go_simp
              refine (fits_any _ _ _ (sgAt L k).ln _ (sgAt L k).kd _ (zAt Z k) _ (unhide OK).ln0 (unhide OK).ln1 (unhide OK).kd).mono ?_; rintro e w3 ⟨rfl, hb3⟩; have hb3' := hb3.mono hHeld.size; dsimp only
              refine hK.out _ _ (hHeld.trans hb3') (fun hHeld => ?_)
              clear hK K
              try simp only [Act.put]
              try simp only [List.setIfInBounds_toArray]
              try simp only [List.set_cons_succ]
              try simp only [List.set_cons_zero]
              refine wpAnyH_take (i := 11) (v := ?_) (at_list rfl) (by kernel_rfl) (by kernel_rfl) (by kernel_rfl) (fun _ _ _ h => h) (Or.inl ⟨by rfl, ?_⟩) (by assumption) ?_
              rotate_left
              · intro w hSw; (try dsimp only at hSw); first | (go_simp; done) | (go_simp; with_reducible rfl)
              try simp only [Act.put]
              try simp only [List.setIfInBounds_toArray]
              try simp only [List.set_cons_succ]
              try simp only [List.set_cons_zero]
              refine wpAnyH_take (i := 12) (v := ?_) (at_list rfl) (by kernel_rfl) (by kernel_rfl) (by kernel_rfl) (fun _ _ _ h => h) (Or.inl ⟨by rfl, ?_⟩) (by assumption) ?_
              rotate_left
              · intro w hSw; (try dsimp only at hSw); first | (go_simp; done) | (go_simp; with_reducible rfl)
              try simp only [Act.put]
              try simp only [List.setIfInBounds_toArray]
              try simp only [List.set_cons_succ]
              try simp only [List.set_cons_zero]
              refine wpAnyH_done (by kernel_rfl) ?_ _
              refine NoPanic.normal ?_
              clear hc7 hzc hb3 hb3'
              go_wp2
              go_roundw
              case rel => exact ⟨k + 1, by omega, by go_num, fun j hj => by
                  by_cases e : j = k
                  · subst e; rw [unfit, hfi]; simp
                  · exact unhide HN j (by omega), by assumption⟩
              case measure => simp [intOf]; omega
            | false =>
              go_wp2
              refine wp_region_noPanic ?_
              refine wp_region_held_drew (S := fun w' => Below w.heap.size w w') (by kernel_rfl) hb2'.drew (fun hHeld => ?_)
              refine wpAnyH_take (i := 0) (v := ?_) (at_list rfl) (by kernel_rfl) (by kernel_rfl) (by kernel_rfl) (fun _ _ _ h => h) (Or.inl ⟨by rfl, ?_⟩) (by assumption) ?_
              rotate_left
              · intro w hSw; (try dsimp only at hSw); first | (go_simp; done) | (go_simp; with_reducible rfl)
              try simp only [Act.put]
              try simp only [List.setIfInBounds_toArray]
              try simp only [List.set_cons_succ]
              try simp only [List.set_cons_zero]
              refine wpAnyH_take (i := 1) (v := ?_) (at_list rfl) (by kernel_rfl) (by kernel_rfl) (by kernel_rfl) (fun _ _ _ h => h) (Or.inl ⟨by rfl, ?_⟩) (by assumption) ?_
              rotate_left
              · intro w hSw; (try dsimp only at hSw); first | (go_simp; done) | (go_simp; with_reducible rfl)
              try simp only [Act.put]
              try simp only [List.setIfInBounds_toArray]
              try simp only [List.set_cons_succ]
              try simp only [List.set_cons_zero]
              refine wpAnyH_take (i := 2) (v := ?_) (at_list rfl) (by kernel_rfl) (by kernel_rfl) (by kernel_rfl) (fun _ _ _ h => h) (Or.inl ⟨by rfl, ?_⟩) (by assumption) ?_
              rotate_left
              · intro w hSw; (try dsimp only at hSw); first | (go_simp; done) | (go_simp; with_reducible rfl)
              try simp only [Act.put]
              try simp only [List.setIfInBounds_toArray]
              try simp only [List.set_cons_succ]
              try simp only [List.set_cons_zero]
              refine wpAnyH_take (i := 3) (v := ?_) (at_list rfl) (by kernel_rfl) (by kernel_rfl) (by kernel_rfl) (fun _ _ _ h => h) (Or.inl ⟨by rfl, ?_⟩) (by assumption) ?_
              rotate_left
              · intro w hSw; (try dsimp only at hSw); first | (go_simp; done) | (go_simp; with_reducible rfl)
              try simp only [Act.put]
              try simp only [List.setIfInBounds_toArray]
              try simp only [List.set_cons_succ]
              try simp only [List.set_cons_zero]
              refine wpAnyH_take (i := 4) (v := ?_) (at_list rfl) (by kernel_rfl) (by kernel_rfl) (by kernel_rfl) (fun _ _ _ h => h) (Or.inl ⟨by rfl, ?_⟩) (by assumption) ?_
              rotate_left
              · intro w hSw; (try dsimp only at hSw); first | (go_simp; done) | (go_simp; with_reducible rfl)
              try simp only [Act.put]
              try simp only [List.setIfInBounds_toArray]
              try simp only [List.set_cons_succ]
              try simp only [List.set_cons_zero]
              refine wpAnyH_take (i := 5) (v := ?_) (at_list rfl) (by kernel_rfl) (by kernel_rfl) (by kernel_rfl) (fun _ _ _ h => h) (Or.inl ⟨by rfl, ?_⟩) (by assumption) ?_
              rotate_left
              · intro w hSw; (try dsimp only at hSw); first | (go_simp; done) | (go_simp; with_reducible rfl)
              try simp only [Act.put]
              try simp only [List.setIfInBounds_toArray]
              try simp only [List.set_cons_succ]
              try simp only [List.set_cons_zero]
              refine wpAnyH_take (i := 6) (v := ?_) (at_list rfl) (by kernel_rfl) (by kernel_rfl) (by kernel_rfl) (fun _ _ _ h => h) (Or.inl ⟨by rfl, ?_⟩) (by assumption) ?_
              rotate_left
              · intro w hSw; (try dsimp only at hSw); first | (go_simp; done) | (go_simp; with_reducible rfl)
              try simp only [Act.put]
              try simp only [List.setIfInBounds_toArray]
              try simp only [List.set_cons_succ]
              try simp only [List.set_cons_zero]
              refine wpAnyH_take (i := 7) (v := ?_) (at_list rfl) (by kernel_rfl) (by kernel_rfl) (by kernel_rfl) (fun _ _ _ h => h) (Or.inl ⟨by rfl, ?_⟩) (by assumption) ?_
              rotate_left
              · intro w hSw; (try dsimp only at hSw); first | (go_simp; done) | (go_simp; with_reducible rfl)
              try simp only [Act.put]
              try simp only [List.setIfInBounds_toArray]
              try simp only [List.set_cons_succ]
              try simp only [List.set_cons_zero]
              refine wpAnyH_take (i := 8) (v := ?_) (at_list rfl) (by kernel_rfl) (by kernel_rfl) (by kernel_rfl) (fun _ _ _ h => h) (Or.inl ⟨by rfl, ?_⟩) (by assumption) ?_
              rotate_left
              · intro w hSw; (try dsimp only at hSw); first | (go_simp; done) | (go_simp; with_reducible rfl)
              try simp only [Act.put]
              try simp only [List.setIfInBounds_toArray]
              try simp only [List.set_cons_succ]
              try simp only [List.set_cons_zero]
              refine wpAnyH_take (i := 9) (v := ?_) (at_list rfl) (by kernel_rfl) (by kernel_rfl) (by kernel_rfl) (fun _ _ _ h => h) (Or.inl ⟨by rfl, ?_⟩) (by assumption) ?_
              rotate_left
              · intro w hSw; (try dsimp only at hSw); first | (go_simp; done) | (go_simp; with_reducible rfl)
              try simp only [Act.put]
              try simp only [List.setIfInBounds_toArray]
              try simp only [List.set_cons_succ]
              try simp only [List.set_cons_zero]
              refine wpAnyH_ready (rs := [10]) (by kernel_rfl) (by simp) ?_
              refine AllReadyH.cons (at_list rfl) (fun K hK => ?_) AllReadyH.nil
              go_simp
              refine (fits_any _ _ _ (sgAt L k).ln _ (sgAt L k).kd _ (zAt Z k) _ (unhide OK).ln0 (unhide OK).ln1 (unhide OK).kd).mono ?_; rintro e w3 ⟨rfl, hb3⟩; have hb3' := hb3.mono hHeld.size; dsimp only
              refine hK.out _ _ (hHeld.trans hb3') (fun hHeld => ?_)
              clear hK K
              try simp only [Act.put]
              try simp only [List.setIfInBounds_toArray]
              try simp only [List.set_cons_succ]
              try simp only [List.set_cons_zero]
              refine wpAnyH_take (i := 11) (v := ?_) (at_list rfl) (by kernel_rfl) (by kernel_rfl) (by kernel_rfl) (fun _ _ _ h => h) (Or.inl ⟨by rfl, ?_⟩) (by assumption) ?_
              rotate_left
              · intro w hSw; (try dsimp only at hSw); first | (go_simp; done) | (go_simp; with_reducible rfl)
              try simp only [Act.put]
              try simp only [List.setIfInBounds_toArray]
              try simp only [List.set_cons_succ]
              try simp only [List.set_cons_zero]
              refine wpAnyH_take (i := 12) (v := ?_) (at_list rfl) (by kernel_rfl) (by kernel_rfl) (by kernel_rfl) (fun _ _ _ h => h) (Or.inl ⟨by rfl, ?_⟩) (by assumption) ?_
              rotate_left
              · intro w hSw; (try dsimp only at hSw); first | (go_simp; done) | (go_simp; with_reducible rfl)
              try simp only [Act.put]
              try simp only [List.setIfInBounds_toArray]
              try simp only [List.set_cons_succ]
              try simp only [List.set_cons_zero]
              refine wpAnyH_done (by kernel_rfl) ?_ _
              refine NoPanic.normal ?_
              clear hc7 hzc hb3 hb3'
              go_wp2
              go_ret
              exact ⟨ret_int (by rw [firstUn, findIx_is (unhide HN) hlt (by rw [unfit, hac, hfi]; rfl)]), by assumption⟩
        · go_wp2
          go_ret
          exact ⟨ret_int (by rw [firstUn, findIx_none (fun j hj => unhide HN j (by omega))]), hb⟩

end Go.Proofs.Ytoihlnjcgopdlaa

namespace Go.Proofs.Ytoihlnjcgopdlaa
open Go.RowKit

def AllFits (L : List Sg) : Prop := ∀ k, k < L.length → (sgAt L k).Fits

theorem lay_lt {s : Sg} (ok : s.Ok) (ft : s.Fits) (v : Int) : layTo s.st s.ln s.od v s.ln.toNat < 18446744073709551616 := by
  have h0 := ok.ln0
  exact layTo_lt _ _ _ _ _ (fun i h h' => ⟨place_lo _ _ _ _ ok.st0 h (by omega), ft i h (by omega)⟩)

theorem bitsTo_lt {L : List Sg} {Z : List Int} {c : Int} (hg : Good L) (hf : AllFits L) : ∀ k, k ≤ L.length → bitsTo L Z c k < 18446744073709551616 := by
  intro k
  induction k with
  | zero => intro _; simp [bitsTo]
  | succ k ih =>
    intro hk
    have h1 := ih (by omega)
    rw [bitsTo]
    split
    · have h2 := lay_lt (hg.2 k (by omega)).1 (hf k (by omega)) (Z.getD k 0)
      have e : (18446744073709551616 : Nat) = 2 ^ 64 := rfl
      rw [e] at h1 h2 ⊢
      exact Nat.or_lt_two_pow h1 h2
    · exact h1

theorem bits_step {L : List Sg} {Z : List Int} {c : Int} {k : Nat} (hg : Good L) (hf : AllFits L) (hk : k < L.length) (ha : activeB (sgAt L k).rl c = true) :
    bits BinOp.or IntKind.u64 (bitsTo L Z c k : Int) (layTo (sgAt L k).st (sgAt L k).ln (sgAt L k).od (zAt Z k) (sgAt L k).ln.toNat : Int) = (bitsTo L Z c (k + 1) : Nat) := by
  rw [u64_or_nat _ _ (bitsTo_lt hg hf k (by omega)) (lay_lt (hg.2 k hk).1 (hf k hk) _), bitsTo, if_pos ha]
  rfl
theorem bits_stay {L : List Sg} {Z : List Int} {c : Int} {k : Nat} (ha : activeB (sgAt L k).rl c = false) : bitsTo L Z c (k + 1) = bitsTo L Z c k := by
  rw [bitsTo, ha]; rfl

set_option maxRecDepth 100000 in
set_option maxHeartbeats 1000000 in
theorem packBits_any (v vz : Value) (L : List Sg) (Z : List Int) (c : Int) (w : World) (h : SigsAt w v L) (hz : IntsAt w vz Z) (hlen : Z.length = L.length) (hg : Good L) (hf : AllFits L) :
    Calls Try.prog 42 #[v, vz, .int .i64 c] w fun e w' => e = .returned (.int .u64 (bitsTo L Z c L.length)) ∧ Below w.heap.size w w' := by
  have hl := hg.1
  have HG := hide hg
  have HF := hide hf
  clear hg hf
  rcases h.opened with ⟨rfl, a, cc, rfl⟩ | ⟨g, cap, rfl, hgl, hcap, hcm, hc⟩
  · obtain ⟨za, zcap, rfl, hz1, hz2, hz3⟩ := hz
    clear hz3 hz2
    go_enter Try.func42, Try.ntmps42
    go_wp2
    refine wp_loop_rounds 1 ?_
    rw [rounds_succ]
    go_wp2
    go_ret
    exact ⟨ret_u64 (by simp [bitsTo]), Below.refl _ _⟩
  · obtain ⟨za, zcap, rfl, hz1, hz2, hz3⟩ := hz
    have HC := hide hc
    have HZ2 := hide hz2
    have HZ3 := hide hz3
    have hle1 : Z.length ≤ L.length := by omega
    have hle2 : L.length ≤ Z.length := by omega
    clear hc hz2 hz3 hlen h
    cases za with
    | none =>
      have h0 := unhide HZ2 rfl
      have hl0 : L.length ≤ 0 := by omega
      clear h0
      go_enter Try.func42, Try.ntmps42
      go_wp2
      refine wp_loop_rounds 1 ?_
      rw [rounds_succ]
      go_wp2
      go_ret
      exact ⟨ret_u64 (by have : L.length = 0 := by omega
                         rw [this]; rfl), Below.refl _ _⟩
    | some x =>
      have HX := hide (unhide HZ3 x rfl)
      go_enter Try.func42, Try.ntmps42
      go_wp2
      go_loopw [7, 8, 9] (fun b i _ wr => ∃ k : Nat, k ≤ L.length ∧ i = .int .i64 k ∧ b = .int .u64 (bitsTo L Z c k) ∧ Below w.heap.size w wr) (fun _ i _ _ => L.length - (intOf i).toNat)
      case atStart => exact ⟨0, by omega, rfl, rfl, Below.refl _ _⟩
      case round =>
        obtain ⟨k, hk, rfl, rfl, hb⟩ := hrel
        by_cases hlt : k < L.length
        · have hc7 := fun (wx : World) (h : Below w.heap.size w wx) => cells7 (unhide HC) hgl h hlt
          have hzc := fun (wx : World) (h : Below w.heap.size w wx) => ints_cell (unhide HX) h (show k < Z.length by omega)
          have hi0 : (0 : Int) ≤ (k : Int) := by omega
          have hi1 : (k : Int) < (L.length : Int) := by omega
          have hi2 : (k : Int) < (Z.length : Int) := by omega
          obtain ⟨ok, r0, r1⟩ := (unhide HG).2 k hlt
          have OK := hide ok
          have hcw := hc7 _ hb
          clear ok
          go_wp2_with fail
          refine (isActive_any _ _ _ _ _ _ (sgAt L k).rl c _ r0 r1).mono ?_
          rintro e w2 ⟨rfl, hb2⟩
          have hb2' := hb.trans (hb2.mono hb.size)
          clear hb2 hcw hb
          cases hac : activeB (sgAt L k).rl c with
          | false =>
            have HS := hide (bits_stay (L := L) (Z := Z) hac)
            clear hc7 hzc
            go_wp2
            go_roundw
            case rel => exact ⟨k + 1, by omega, by go_num, by rw [unhide HS], hb2'⟩
            case measure => simp [intOf]; omega
          | true =>
            have HS := hide (bits_step (Z := Z) (unhide HG) (unhide HF) hlt hac)
            go_wp2
            refine wp_region_noPanic ?_
            refine wp_region_held_drew (S := fun w' => Below w.heap.size w w') (by kernel_rfl) hb2'.drew (fun hHeld => ?_)
            refine wpAnyH_take (i := 0) (v := ?_) (at_list rfl) (by kernel_rfl) (by kernel_rfl) (by kernel_rfl) (fun _ _ _ h => h) (Or.inl ⟨by rfl, ?_⟩) (by assumption) ?_
            rotate_left
            · intro w hSw; (try dsimp only at hSw); first | (go_simp; done) | (go_simp; with_reducible rfl)
            try simp only [Act.put]
            try simp only [List.setIfInBounds_toArray]
            try simp only [List.set_cons_succ]
            try simp only [List.set_cons_zero]
            refine wpAnyH_take (i := 1) (v := ?_) (at_list rfl) (by kernel_rfl) (by kernel_rfl) (by kernel_rfl) (fun _ _ _ h => h) (Or.inl ⟨by rfl, ?_⟩) (by assumption) ?_
            rotate_left
            · intro w hSw; (try dsimp only at hSw); first | (go_simp; done) | (go_simp; with_reducible rfl)
            try simp only [Act.put]
            try simp only [List.setIfInBounds_toArray]
            try simp only [List.set_cons_succ]
            try simp only [List.set_cons_zero]
            refine wpAnyH_take (i := 2) (v := ?_) (at_list rfl) (by kernel_rfl) (by kernel_rfl) (by kernel_rfl) (fun _ _ _ h => h) (Or.inl ⟨by rfl, ?_⟩) (by assumption) ?_
            rotate_left
            · intro w hSw; (try dsimp only at hSw); first | (go_simp; done) | (go_simp; with_reducible rfl)
            try simp only [Act.put]
            try simp only [List.setIfInBounds_toArray]
            try simp only [List.set_cons_succ]
            try simp only [List.set_cons_zero]
            refine wpAnyH_take (i := 3) (v := ?_) (at_list rfl) (by kernel_rfl) (by kernel_rfl) (by kernel_rfl) (fun _ _ _ h => h) (Or.inl ⟨by rfl, ?_⟩) (by assumption) ?_
            rotate_left
            · intro w hSw; (try dsimp only at hSw); first | (go_simp; done) | (go_simp; with_reducible rfl)
            try simp only [Act.put]
            try simp only [List.setIfInBounds_toArray]
            try simp only [List.set_cons_succ]
            try simp only [List.set_cons_zero]
            refine wpAnyH_take (i := 4) (v := ?_) (at_list rfl) (by kernel_rfl) (by kernel_rfl) (by kernel_rfl) (fun _ _ _ h => h) (Or.inl ⟨by rfl, ?_⟩) (by assumption) ?_
            rotate_left
            · intro w hSw; (try dsimp only at hSw); first | (go_simp; done) | (go_simp; with_reducible rfl)
            try simp only [Act.put]
            try simp only [List.setIfInBounds_toArray]
            try simp only [List.set_cons_succ]
            try simp only [List.set_cons_zero]
            refine wpAnyH_take (i := 5) (v := ?_) (at_list rfl) (by kernel_rfl) (by kernel_rfl) (by kernel_rfl) (fun _ _ _ h => h) (Or.inl ⟨by rfl, ?_⟩) (by assumption) ?_
            rotate_left
            · intro w hSw; (try dsimp only at hSw); first | (go_simp; done) | (go_simp; with_reducible rfl)
            try simp only [Act.put]
            try simp only [List.setIfInBounds_toArray]
            try simp only [List.set_cons_succ]
            try simp only [List.set_cons_zero]
            refine wpAnyH_take (i := 6) (v := ?_) (at_list rfl) (by kernel_rfl) (by kernel_rfl) (by kernel_rfl) (fun _ _ _ h => h) (Or.inl ⟨by rfl, ?_⟩) (by assumption) ?_
            rotate_left
            · intro w hSw; (try dsimp only at hSw); first | (go_simp; done) | (go_simp; with_reducible rfl)
            try simp only [Act.put]
            try simp only [List.setIfInBounds_toArray]
            try simp only [List.set_cons_succ]
            try simp only [List.set_cons_zero]
            refine wpAnyH_take (i := 7) (v := ?_) (at_list rfl) (by kernel_rfl) (by kernel_rfl) (by kernel_rfl) (fun _ _ _ h => h) (Or.inl ⟨by rfl, ?_⟩) (by assumption) ?_
            rotate_left
            · intro w hSw; (try dsimp only at hSw); first | (go_simp; done) | (go_simp; with_reducible rfl)
            try simp only [Act.put]
            try simp only [List.setIfInBounds_toArray]
            try simp only [List.set_cons_succ]
            try simp only [List.set_cons_zero]
            refine wpAnyH_ready (rs := [8]) (by kernel_rfl) (by simp) ?_
            refine AllReadyH.cons (at_list rfl) (fun K hK => ?_) AllReadyH.nil
            go_simp
            refine (layBits_any _ _ (sgAt L k).st (sgAt L k).ln (sgAt L k).od _ _ (zAt Z k) _ (unhide OK).st0 (unhide OK).st1 (unhide OK).ln0 (unhide OK).ln1 (unhide OK).od (unhide HF k hlt)).mono ?_; rintro e w3 ⟨rfl, hb3⟩; have hb3' := hb3.mono hHeld.size; dsimp only
            refine hK.out _ _ (hHeld.trans hb3') (fun hHeld => ?_)
            clear hK K
            try simp only [Act.put]
            try simp only [List.setIfInBounds_toArray]
            try simp only [List.set_cons_succ]
            try simp only [List.set_cons_zero]
            refine wpAnyH_take (i := 9) (v := ?_) (at_list rfl) (by kernel_rfl) (by kernel_rfl) (by kernel_rfl) (fun _ _ _ h => h) (Or.inl ⟨by rfl, ?_⟩) (by assumption) ?_
            rotate_left
            · intro w hSw; (try dsimp only at hSw); first | (go_simp; done) | (go_simp; with_reducible rfl)
            try simp only [Act.put]
            try simp only [List.setIfInBounds_toArray]
            try simp only [List.set_cons_succ]
            try simp only [List.set_cons_zero]
            refine wpAnyH_done (by kernel_rfl) ?_ _
            refine NoPanic.normal ?_
            clear hc7 hzc hb3 hb3'
            go_wp2
            go_roundw
            case rel => exact ⟨k + 1, by omega, by go_num, by rw [unhide HS], by assumption⟩
            case measure => simp [intOf]; omega
        · have hkk : k = L.length := by omega
          have HK := hide hkk
          clear hkk
          go_wp2
          go_ret
          exact ⟨ret_u64 (by rw [← unhide HK]), hb⟩

theorem Try.infoU8 : (Try.prog.info? 5).map (fun i => (i.zero, i.size, i.bytes)) = some (some (.int .u8 0), 1, 1) := by kernel_rfl

theorem byte_step (N k : Nat) : (N : Int) / 2 ^ (8 * k) % 256 = (byteOf N k : Int) := by
  rw [byteOf]
  have e : ((2 : Int) ^ (8 * k)) = (((2 : Nat) ^ (8 * k) : Nat) : Int) := by simp
  rw [e]; omega

/-- 'string(b)' of a row of the call's own. -/
theorem conv_row {w : World} {B : Nat} {v : Value} {n : Nat} {xs : List Int} (h : w.ownsRow B 5 1 v n (xs.map (Value.int .u8))) :
    (convert 38 9 v).run Try.prog w = .ok (.string (strOfNums xs)) w := by
  have hl := h.1
  rw [List.length_map] at hl
  rcases h.2 with ⟨rfl, rfl⟩ | ⟨g, cap, cur, rfl, _, hg, hnc, _, hcs, ht⟩
  · have hx : xs = [] := List.eq_nil_of_length_eq_zero (by omega)
    subst hx
    exact run_convert_bytes_nil w 38 5 Try.underlying38 Try.underlying5 0 0 9 Try.underlying9
  · refine run_convert_bytes_arg w 38 5 Try.underlying38 Try.underlying5 g 0 n cap xs (by omega) (fun i hi => ?_) 9 Try.underlying9
    rw [cell_of_row w g (0 + i) cur 5 (0, 0) hg, Nat.zero_add]
    have : cur.toList[i]? = (xs.map (Value.int .u8))[i]? := by rw [← ht, List.getElem?_take, if_pos (by omega)]
    rw [Array.getElem?_toList] at this
    rw [this]
    simp [List.getElem?_eq_getElem (show i < xs.length by omega)]

set_option maxRecDepth 100000 in
set_option maxHeartbeats 400000 in
theorem payloadText_any (N : Nat) (n : Nat) (w : World) (hn : n ≤ 8) :
    Calls Try.prog 43 #[.int .u64 N, .int .i64 n] w fun e w' => e = .returned (.string (payB N n)) ∧ Below w.heap.size w w' := by
  obtain ⟨i0, hinf, hz0, hz1, hz2⟩ := info_parts Try.infoU8
  have HINF := hide hinf
  have HZ0 := hide hz0
  have HZ1 := hide hz1
  have HZ2 := hide hz2
  clear hinf hz0 hz1 hz2
  go_enter Try.func43, Try.ntmps43
  go_wp2
  go_loopw [5, 6] (fun v i wr => ∃ k : Nat, k ≤ n ∧ i = .int .i64 k ∧ wr.ownsRow w.heap.size 5 1 v k ((bytesL N k).map (Value.int .u8)) ∧ Below w.heap.size w wr) (fun _ i _ => n - (intOf i).toNat)
  case atStart =>
    exact ⟨0, by omega, rfl, ⟨by simp [bytesL], .inr ⟨w.heap.size, 0, #[], rfl, Nat.le_refl _, blk_new _ _, by simp, by simp [maxLen], by simp, by simp [bytesL]⟩⟩, (Below.refl _ _).alloc (Nat.le_refl _) _⟩
  case round =>
    obtain ⟨k, hk, rfl, hown, hb⟩ := hrel
    obtain ⟨sa, cap, rfl⟩ := ownsRow_form hown
    have HOWN := hide hown
    have HB := hide hb
    clear hown hb
    by_cases hlt : k < n
    · have hbs := byte_step N k
      have HBN := hide (show (0 : Int) ≤ byteOf N k by omega)
      go_wp2_with (at_builtin; refine wpList_append_own _ rfl _ _ 38 rfl w.heap.size 5 i0 _ 1 1 Try.underlying38 (unhide HINF) (unhide HZ0) (unhide HZ1) (unhide HZ2) rfl (by decide) _ _ _ rfl ((unhide HOWN).alloc _) ⟨wr.heap.size, 0, none⟩ 1 1 [.int .u8 (byteOf N k)] rfl rfl ?c1 ?c2 ?c3 ?c4 ?c5 ?_)
      case c1 => exact new_cells (blk_new _ _)
      case c2 => simp [Value.oneCell']
      case c3 => unfold maxLen; omega
      case c4 => omega
      case c5 => have := (unhide HB).size; simp; omega
      intro v3 w3 hown3 hgrow _
      obtain ⟨a3, cap3, rfl⟩ := ownsRow_form hown3
      have HB3 := hide (Below.grown ((unhide HB).alloc (unhide HB).size _) hgrow (by have := (unhide HB).size; simp; omega) (fun k hk => ((unhide HOWN).lt k hk).1))
      have HOWN3 := hide hown3
      clear hown3 hgrow hbs
      go_wp2
      go_roundw
      case rel =>
        refine ⟨k + 1, by omega, by go_num, ?_, unhide HB3⟩
        have := unhide HOWN3
        rw [bytesL_succ, List.map_append]
        exact this
      case measure => simp [intOf]; omega
    · have hkn : k = n := by omega
      have hconv := conv_row (unhide HOWN)
      have HK := hide hkn
      clear hkn
      go_wp2
      go_ret
      exact ⟨by rw [payB, ← unhide HK]; rfl, unhide HB⟩

end Go.Proofs.Ytoihlnjcgopdlaa

namespace Go.Proofs.Ytoihlnjcgopdlaa
open Go.RowKit

/-- The number of the message of this id, or -1. -/
def msgIx (M : List Mg) (id : ByteArray) : Int := findIx (fun k => decide ((mAt M k).id = id)) M.length

theorem findIx_congr {f g : Nat → Bool} {n : Nat} (h : ∀ k, k < n → f k = g k) : findIx f n = findIx g n := by
  have hle := firstIx_le f n
  have e : firstIx f n = firstIx g n := by
    by_cases h1 : firstIx f n < n
    · exact (firstIx_is (fun j hj => by rw [← h j (by omega)]; exact firstIx_no f n j hj) h1 (by rw [← h _ h1]; exact firstIx_yes f n h1)).symm
    · have e1 : firstIx f n = n := by omega
      rw [e1]
      exact (firstIx_none (fun j hj => by rw [← h j hj]; exact firstIx_no f n j (by omega))).symm
  rw [findIx, findIx, e]

theorem findIx_cases (f : Nat → Bool) (n : Nat) : (findIx f n = -1 ∧ ∀ j, j < n → f j = false) ∨ ∃ k, k < n ∧ findIx f n = k ∧ f k = true := by
  have hle := firstIx_le f n
  by_cases h1 : firstIx f n < n
  · exact .inr ⟨_, h1, by rw [findIx, if_pos h1], firstIx_yes f n h1⟩
  · exact .inl ⟨by rw [findIx, if_neg h1], fun j hj => firstIx_no f n j (by omega)⟩

theorem idNum_lo (a : ByteArray) : -1 ≤ idNum a ∧ idNum a ≤ 100000 := by
  have h := idTo_hi a 3 (by omega)
  unfold idNum
  split
  · split
    · omega
    · rename_i hb
      have hb' : idBad a = false := by simpa using hb
      have a0 := idBad_all hb' 0 (by omega)
      have a1 := idBad_all hb' 1 (by omega)
      have a2 := idBad_all hb' 2 (by omega)
      have c0 : isHexB (bt a 0) = true := by simp [headB] at a0; simp [isHexB, isDigB]; omega
      have c1 : isHexB (bt a 1) = true := by simpa [headB] using a1
      have c2 : isHexB (bt a 2) = true := by simpa [headB] using a2
      have l0 := hex_lt c0
      have l1 := hex_lt c1
      have l2 := hex_lt c2
      simp only [idTo]
      omega
  · omega
theorem idNum_good {a : ByteArray} (h : a.size = 3) (g : idBad a = false) : 0 ≤ idNum a := by
  rw [idNum, if_pos h, g]
  have a0 := idBad_all g 0 (by omega)
  have a1 := idBad_all g 1 (by omega)
  have a2 := idBad_all g 2 (by omega)
  have c0 : isHexB (bt a 0) = true := by simp [headB] at a0; simp [isHexB, isDigB]; omega
  have c1 : isHexB (bt a 1) = true := by simpa [headB] using a1
  have c2 : isHexB (bt a 2) = true := by simpa [headB] using a2
  have l0 := hex_lt c0
  have l1 := hex_lt c1
  have l2 := hex_lt c2
  simp only [idTo, Bool.false_eq_true, if_false]
  omega

theorem id_eq_any {a b : ByteArray} (ha : a.size = 3) (ga : idBad a = false) : idNum a = idNum b ↔ a = b := by
  constructor
  · intro h
    have h0 := idNum_good ha ga
    by_cases hb : b.size = 3
    · cases gb : idBad b with
      | false => exact (id_inj ha hb ga gb).1 h
      | true => rw [h, idNum, if_pos hb, gb] at h0; simp at h0
    · rw [h, idNum, if_neg hb] at h0; omega
  · rintro rfl; rfl

theorem findM_eq {P : List (Mg × Value)} (hok : ∀ x ∈ P, x.1.Ok) (id : ByteArray) : findM P (idNum id) = msgIx (P.map Prod.fst) id := by
  unfold findM msgIx
  rw [List.length_map]
  refine findIx_congr (fun k hk => ?_)
  have okk := hok _ (mgAt_mem hk)
  rw [mAt_fst, Bool.eq_iff_iff]
  simp only [decide_eq_true_eq]
  exact id_eq_any okk.id okk.good

/-- What soundMessage answers. -/
def MsOut (s id : ByteArray) (e : Ending) (w' : World) : Prop :=
  (chkE s ≠ 0 ∧ e = .returned (.tuple #[.agg #[.int .i64 0, .int .i64 0, .int .i64 0, .slice none 0 0], .int .i64 (chkE s), .int .i64 (chkP s)])) ∨
  (chkE s = 0 ∧ ∃ M, pDb s 4 0 = .inr M ∧ ((msgIx M id = -1 ∧ e = .returned (.tuple #[.agg #[.int .i64 0, .int .i64 0, .int .i64 0, .slice none 0 0], .int .i64 7, .int .i64 0])) ∨
    ∃ (k : Nat) (sv : Value), k < M.length ∧ msgIx M id = k ∧ e = .returned (.tuple #[.agg #[.int .i64 (mAt M k).pl, .int .i64 (idNum (mAt M k).id), .int .i64 (mAt M k).sz, sv], .int .i64 0, .int .i64 0]) ∧ SigsAt w' sv (mAt M k).sigs ∧ (mAt M k).Ok))

theorem set4_sigs {w : World} {B e e' sz : Nat} {v : Value} {n : Nat} {xs : List Value} {cur : Array Value} (h : w.ownsRow 0 e sz v n xs) (hB : w.heap[B]? = some (.cells cur e' (0, 0))) (hne : e ≠ e') (u0 u1 u2 u3 : Value) :
    ((((w.setCell ⟨B, 0, none⟩ u0).setCell ⟨B, 1, none⟩ u1).setCell ⟨B, 2, none⟩ u2).setCell ⟨B, 3, none⟩ u3).ownsRow 0 e sz v n xs := by
  have ha : v.ownBlock ≠ some B := by
    intro hv
    obtain ⟨cur', h2⟩ := ownsRow_block h B hv
    rw [hB] at h2
    simp at h2
    exact hne h2.2.symm
  exact ownsRow_setCell_other (ownsRow_setCell_other (ownsRow_setCell_other (ownsRow_setCell_other h (a := ⟨B, 0, none⟩) ha u0) (a := ⟨B, 1, none⟩) ha u1) (a := ⟨B, 2, none⟩) ha u2) (a := ⟨B, 3, none⟩) ha u3

set_option maxRecDepth 100000 in
set_option maxHeartbeats 1000000 in
theorem soundMessage_any (s id : ByteArray) (w : World) (hs : s.size ≤ maxLen) (hid : id.size ≤ maxLen) :
    Calls Try.prog 39 #[.string s, .string id] w fun e w' => MsOut s id e w' ∧ Below w.heap.size w w' := by
  go_enter Try.func39, Try.ntmps39
  go_wp2_with fail
  refine (soundMessages_any s _ hs).mono ?_
  rintro e w1 ⟨hout, hb1⟩
  have HB1 := hide (show Below (w.heap.size + 1) (w.alloc (.cells #[.int .i64 0, .int .i64 0, .int .i64 0, .slice none 0 0] 74)) w1 from hb1.mono (by simp))
  have hx := fun j => box_cell (unhide HB1) j
  have hlt1 : w.heap.size < w1.heap.size := by have := (unhide HB1).size; simp at this; omega
  have hf := fun j => (unhide HB1).frozen (p := ⟨w.heap.size, j, none⟩) (by simp)
  clear hb1
  rcases hout with ⟨hz, v, P, rfl, hpd, hm, hl, hok⟩ | ⟨hz, rfl⟩
  · have HZ := hide hz
    have HPD := hide hpd
    have HM := hide hm
    have HOK := hide hok
    obtain ⟨sa, cap, rfl⟩ := ownsRow_form hm.1
    clear hz hpd hm hok
    go_wp2_with fail
    refine (idNumber_any id _ hid).mono ?_
    rintro e w2 ⟨rfl, rfl⟩
    go_wp2_with fail
    refine (findMessage_any _ P (idNum id) _ (unhide HM) hl).mono ?_
    rintro e w2 ⟨rfl, rfl⟩
    rw [findM_eq (unhide HOK)]
    rcases findIx_cases (fun k => decide ((mAt (P.map Prod.fst) k).id = id)) (P.map Prod.fst).length with ⟨hn, _⟩ | ⟨k, hk, hkk, _⟩
    · have hn' : msgIx (P.map Prod.fst) id = -1 := hn
      have HN := hide hn'
      rw [hn']
      clear hn hn'
      go_wp2
      exact bodyPost_ret (v := .tuple #[.agg #[.int .i64 0, .int .i64 0, .int .i64 0, .slice none 0 0], .int .i64 7, .int .i64 0]) (by simp [results, Try.results39, go_sem, hx]) rfl ⟨.inr ⟨unhide HZ, _, unhide HPD, .inl ⟨unhide HN, rfl⟩⟩, set4_below (box_below (unhide HB1)) _ _ _ _⟩
    · have hk' : msgIx (P.map Prod.fst) id = k := hkk
      have HK := hide hk'
      have hkl : k < P.length := by simpa using hk
      rw [hk']
      clear hkk hk'
      have OKk := hide (unhide HOK _ (mgAt_mem hkl))
      have hsg : SigsAt w2 (mgAt P k).2 (mgAt P k).1.sigs := (unhide HM).2 _ (mgAt_mem hkl)
      obtain ⟨va, vcap, hva⟩ := ownsRow_form hsg
      rcases (unhide HM).opened with ⟨rfl, _⟩ | ⟨g, cap', hv2, hg, hcap, hcm, hc⟩
      · simp at hkl
      cases hv2
      obtain ⟨c0, c1, c2, c3⟩ := mcells4 hc hg (Below.refl _ _) hkl
      rw [hva] at c3 hsg
      have HSG := hide hsg
      clear hva hsg hc
      unfold maxLen at hcm
      go_wp2
      exact bodyPost_ret (v := .tuple #[.agg #[.int .i64 (mgAt P k).1.pl, .int .i64 (idNum (mgAt P k).1.id), .int .i64 (mgAt P k).1.sz, .slice va (mgAt P k).1.sigs.length vcap], .int .i64 0, .int .i64 0]) (by simp [results, Try.results39, go_sem, hx]) rfl
        ⟨.inr ⟨unhide HZ, _, unhide HPD, .inr ⟨k, _, by simpa using hkl, unhide HK, by rw [mAt_fst], by rw [mAt_fst]; exact set4_sigs (unhide HSG) (by rw [(unhide HB1).block w.heap.size (by omega)]; exact blk_new _ _) (by decide) _ _ _ _, by rw [mAt_fst]; exact unhide OKk⟩⟩, set4_below (box_below (unhide HB1)) _ _ _ _⟩
  · have HZ := hide hz
    have hz2 : (chkE s != 0) = true := by simpa using hz
    clear hz
    go_wp2
    exact bodyPost_ret (v := .tuple #[.agg #[.int .i64 0, .int .i64 0, .int .i64 0, .slice none 0 0], .int .i64 (chkE s), .int .i64 (chkP s)]) (by simp [results, Try.results39, go_sem, hx]) rfl ⟨.inl ⟨unhide HZ, rfl⟩, set4_below (box_below (unhide HB1)) _ _ _ _⟩

end Go.Proofs.Ytoihlnjcgopdlaa

namespace Go.Proofs.Ytoihlnjcgopdlaa
open Go.RowKit

theorem pSigs_made (s : ByteArray) : ∀ (f i : Nat) (l : List Sg) (e : Nat), pSigs s f i = .inr (l, e) → ∀ x ∈ l, ∃ j, x = mkSig s j := by
  intro f
  induction f with
  | zero => intro i l e h; simp [pSigs] at h; obtain ⟨rfl, rfl⟩ := h; simp
  | succ f ih =>
    intro i l e h
    rw [pSigs] at h
    split at h
    · split at h
      · simp at h
      · cases hp : pSigs s f (i + 9) with
        | inl p => rw [hp] at h; simp at h
        | inr x =>
          obtain ⟨l', e'⟩ := x
          rw [hp] at h
          simp at h
          obtain ⟨rfl, rfl⟩ := h
          intro x hx
          rcases List.mem_cons.1 hx with rfl | hx
          · exact ⟨i, rfl⟩
          · exact ih _ _ _ hp x hx
    · simp at h; obtain ⟨rfl, rfl⟩ := h; simp

theorem pMsg_made {s : ByteArray} {i : Nat} {m : Mg} {e : Nat} (h : pMsg s i = .inr (m, e)) : ∀ x ∈ m.sigs, ∃ j, x = mkSig s j := by
  rw [pMsg] at h
  split at h
  · simp at h
  · cases hp : pSigs s 8 (i + 4) with
    | inl p => rw [hp] at h; simp at h
    | inr x =>
      obtain ⟨l, e'⟩ := x
      rw [hp] at h
      simp at h
      obtain ⟨rfl, rfl⟩ := h
      exact pSigs_made s 8 _ _ _ hp

theorem pDb_made (s : ByteArray) : ∀ (f i : Nat) (M : List Mg), pDb s f i = .inr M → ∀ m ∈ M, m.Ok ∧ ∀ x ∈ m.sigs, ∃ j, x = mkSig s j := by
  intro f
  induction f with
  | zero => intro i M h; simp [pDb] at h
  | succ f ih =>
    intro i M h
    rw [pDb] at h
    cases hp : pMsg s i with
    | inl p => rw [hp] at h; simp at h
    | inr x =>
      obtain ⟨m, e⟩ := x
      rw [hp] at h
      simp only at h
      have hm : m.Ok ∧ ∀ x ∈ m.sigs, ∃ j, x = mkSig s j := ⟨(pMsg_ok hp).1, pMsg_made hp⟩
      split at h
      · simp at h; subst h; intro m' hm'; simp at hm'; subst hm'; exact hm
      · split at h
        · cases hd : pDb s f (e + 1) with
          | inl p => rw [hd] at h; simp at h
          | inr l =>
            rw [hd] at h
            simp at h
            subst h
            intro m' hm'
            rcases List.mem_cons.1 hm' with rfl | hm'
            · exact hm
            · exact ih _ _ hd m' hm'
        · simp at h

theorem mAt_mem {M : List Mg} {k : Nat} (h : k < M.length) : mAt M k ∈ M := by
  rw [mAt, List.getD_eq_getElem?_getD, List.getElem?_eq_getElem h]; exact List.getElem_mem h

theorem good_of {s : ByteArray} {M : List Mg} (h : pDb s 4 0 = .inr M) {k : Nat} (hk : k < M.length) : (mAt M k).Ok ∧ Good (mAt M k).sigs := by
  obtain ⟨h1, h2⟩ := pDb_made s 4 0 M h _ (mAt_mem hk)
  refine ⟨h1, h1.len, fun j hj => ?_⟩
  obtain ⟨i, hi⟩ := h2 (sgAt (mAt M k).sigs j) (by rw [sgAt_eq _ _ hj]; exact List.getElem_mem hj)
  refine ⟨sigs_ok h1 j hj, ?_, ?_⟩
  · rw [hi]; exact bt_lo _ _
  · rw [hi]; exact bt_hi _ _

/-- In a sound database nothing is wrong with any signal. -/
theorem sound_at {s : ByteArray} {M : List Mg} (hz : chkE s = 0) (h : pDb s 4 0 = .inr M) {k : Nat} (hk : k < M.length) {j : Nat} (hj : j < (mAt M k).sigs.length) : errAt (mAt M k).sigs (mAt M k).sz j = 0 := by
  have hl : ¬ 320 < s.size := by
    intro hl
    rw [(chk_long hl).1] at hz; omega
  rw [(chk_db hl h).1] at hz
  have hix : errDbIx M = M.length := by
    have hle := firstIx_le (fun n => decide (mE M n ≠ 0)) M.length
    by_cases h2 : errDbIx M < M.length
    · have := firstIx_yes (fun n => decide (mE M n ≠ 0)) M.length h2
      rw [(errDb_is rfl h2).1] at hz
      simp only [decide_eq_true_eq] at this
      exact absurd hz this
    · unfold errDbIx at h2 ⊢; omega
  have hm := firstIx_no (fun n => decide (mE M n ≠ 0)) M.length k (by unfold errDbIx at hix; omega)
  simp only [decide_eq_false_iff_not, Decidable.not_not] at hm
  rw [mE] at hm
  split at hm
  · omega
  · have hle := firstIx_le (fun i => decide (errAt (mAt M k).sigs (mAt M k).sz i ≠ 0)) (mAt M k).sigs.length
    by_cases h2 : errIx (mAt M k).sigs (mAt M k).sz < (mAt M k).sigs.length
    · have := firstIx_yes (fun i => decide (errAt (mAt M k).sigs (mAt M k).sz i ≠ 0)) _ h2
      rw [(errSigs_is rfl h2).1] at hm
      simp only [decide_eq_true_eq] at this
      exact absurd hm this
    · have := firstIx_no (fun i => decide (errAt (mAt M k).sigs (mAt M k).sz i ≠ 0)) (mAt M k).sigs.length j (by unfold errIx at h2; omega)
      simpa using this

theorem sound_fits {s : ByteArray} {M : List Mg} (hz : chkE s = 0) (h : pDb s 4 0 = .inr M) {k : Nat} (hk : k < M.length) : AllFits (mAt M k).sigs := fun _ hj =>
  errOf_fits (good_of h hk).1.sz1 (sound_at hz h hk hj)

def choiceOf (L : List Sg) (Z : List Int) : Int := if 0 ≤ muxOf L then zAt Z (muxOf L).toNat else 0
theorem mux_range (L : List Sg) : muxOf L = -1 ∨ ∃ k : Nat, k < L.length ∧ muxOf L = k ∧ (sgAt L k).rl = 77 := by
  rcases findIx_cases (fun k => decide ((sgAt L k).rl = 77)) L.length with ⟨h, _⟩ | ⟨k, hk, h, h2⟩
  · exact .inl h
  · exact .inr ⟨k, hk, h, by simpa using h2⟩

def noBytes : ByteArray := { data := #[] }
/-- P4, of a message. -/
def pkMsg (m : Mg) (Z : List Int) : ByteArray × Int × Int :=
  if Z.length ≠ m.sigs.length then (noBytes, 8, 0)
  else if 0 ≤ firstUn m.sigs Z (choiceOf m.sigs Z) then (noBytes, 9, firstUn m.sigs Z (choiceOf m.sigs Z))
  else (payB (bitsTo m.sigs Z (choiceOf m.sigs Z) m.sigs.length) m.sz.toNat, 0, 0)
/-- P4. -/
def pk (s id : ByteArray) (Z : List Int) : ByteArray × Int × Int :=
  if chkE s ≠ 0 then (noBytes, chkE s, chkP s) else
  match pDb s 4 0 with
  | .inl _ => (noBytes, 0, 0)
  | .inr M => if msgIx M id < 0 then (noBytes, 7, 0) else pkMsg (mAt M (msgIx M id).toNat) Z

theorem pk_bad {s id : ByteArray} {Z : List Int} (h : chkE s ≠ 0) : pk s id Z = (noBytes, chkE s, chkP s) := by rw [pk, if_pos h]
theorem pk_id {s id : ByteArray} {Z : List Int} {M : List Mg} (h : chkE s = 0) (hp : pDb s 4 0 = .inr M) (hi : msgIx M id = -1) : pk s id Z = (noBytes, 7, 0) := by
  rw [pk, if_neg (by omega), hp]; simp only; rw [if_pos (by omega)]
theorem pk_msg {s id : ByteArray} {Z : List Int} {M : List Mg} {k : Nat} (h : chkE s = 0) (hp : pDb s 4 0 = .inr M) (hi : msgIx M id = k) : pk s id Z = pkMsg (mAt M k) Z := by
  rw [pk, if_neg (by omega), hp]; simp only; rw [if_neg (by omega), hi, Int.toNat_natCast]

end Go.Proofs.Ytoihlnjcgopdlaa

namespace Go.Proofs.Ytoihlnjcgopdlaa
open Go.RowKit

theorem pk_eta (x : ByteArray × Int × Int) {a : ByteArray} {b c : Int} (h : x = (a, b, c)) : x.1 = a ∧ x.2.1 = b ∧ x.2.2 = c := by rw [h]; exact ⟨rfl, rfl, rfl⟩

set_option maxRecDepth 100000 in
set_option maxHeartbeats 2000000 in
theorem Pack_any (s id : ByteArray) (vz : Value) (Z : List Int) (w : World) (hs : s.size ≤ maxLen) (hid : id.size ≤ maxLen) (hz : IntsAt w vz Z) :
    Calls Try.prog 19 #[.string s, .string id, vz] w fun e w' => e = .returned (.tuple #[.string (pk s id Z).1, .int .i64 (pk s id Z).2.1, .int .i64 (pk s id Z).2.2]) ∧ Below w.heap.size w w' := by
  have HZZ := hide hz
  obtain ⟨za, zcap, rfl, hz1, hz2, hz3⟩ := hz
  have HZ2 := hide hz2
  have HZ3 := hide hz3
  clear hz2 hz3
  go_enter Try.func19, Try.ntmps19
  go_wp2_with fail
  refine (soundMessage_any s id _ hs hid).mono ?_
  rintro e w1 ⟨hout, hb1⟩
  have HB1 := hide hb1
  clear hb1
  rcases hout with ⟨hz, rfl⟩ | ⟨hz, M, hpd, hout⟩
  · have HP := hide (pk_eta _ (pk_bad (id := id) (Z := Z) hz))
    have hz2 : (chkE s != 0) = true := by simpa using hz
    clear hz
    go_wp2
    go_ret3
    exact ⟨by rw [(unhide HP).1, (unhide HP).2.1, (unhide HP).2.2]; rfl, (unhide HB1).alloc (unhide HB1).size _⟩
  rcases hout with ⟨hix, rfl⟩ | ⟨k, sv, hk, hix, rfl, hsv, hmo⟩
  · have HP := hide (pk_eta _ (pk_id (Z := Z) hz hpd hix))
    clear hz hpd hix
    go_wp2
    go_ret3
    exact ⟨by rw [(unhide HP).1, (unhide HP).2.1, (unhide HP).2.2]; rfl, (unhide HB1).alloc (unhide HB1).size _⟩
  obtain ⟨m, hm⟩ : ∃ m, m = mAt M k := ⟨_, rfl⟩
  have HPK := hide (pk_msg (Z := Z) hz hpd hix)
  have HG := hide (good_of hpd hk).2
  have HAF := hide (sound_fits hz hpd hk)
  rw [← hm] at hsv hmo HPK HG HAF
  rw [← hm]
  obtain ⟨va, vcap, rfl⟩ := ownsRow_form hsv
  have HSV := hide hsv
  have HMO := hide hmo
  have hlen8 := hmo.len
  have hsz0 := hmo.sz0
  have hsz1 := hmo.sz1
  have hszn : ((m.sz.toNat : Nat) : Int) = m.sz := Int.toNat_of_nonneg hmo.sz0
  have HSN := hide hszn
  clear hz hpd hix hsv hmo hm hk hszn
  have HBB : Hid (Below (w1.heap.size + 1) (w1.alloc (.cells #[.int .i64 m.pl, .int .i64 (idNum m.id), .int .i64 m.sz, .slice va m.sigs.length vcap] 74)) (w1.alloc (.cells #[.int .i64 m.pl, .int .i64 (idNum m.id), .int .i64 m.sz, .slice va m.sigs.length vcap] 74))) := hide (Below.refl _ _)
  by_cases hln : Z.length = m.sigs.length
  · have hl2 : ((Z.length : Int) != (m.sigs.length : Int)) = false := by rw [hln]; simp
    have HLN := hide hln
    have hle1 : Z.length ≤ m.sigs.length := by omega
    have hle2 : m.sigs.length ≤ Z.length := by omega
    clear hln
    go_wp2_with fail
    refine (multiplexor_any _ m.sigs _ (ownsRow_below (unhide HSV) (box_below (unhide HBB))) hlen8).mono ?_
    rintro e w2 ⟨rfl, rfl⟩
    have HC : Hid (IntsAt w1 (.slice za Z.length zcap) Z) := hide ((unhide HZZ).below (unhide HB1))
    rcases mux_range m.sigs with hmx | ⟨x, hx, hmx, _⟩
    · have HCH := hide (show choiceOf m.sigs Z = 0 by rw [choiceOf, hmx]; rfl)
      have hmx2 : muxOf m.sigs < 0 := by omega
      clear hmx
      go_wp2_with fail
      refine (firstUnfit_any _ _ m.sigs Z 0 _ (ownsRow_below (unhide HSV) (box_below (unhide HBB))) ((unhide HC).below (box_below (unhide HBB))) (unhide HLN) (unhide HG)).mono ?_
      rintro e w3 ⟨rfl, hb3⟩
      have HB3 := hide (box_next (unhide HBB) hb3)
      have hx3 := box_cell (unhide HB3)
      clear hb3
      by_cases hu : 0 ≤ firstUn m.sigs Z 0
      · have HP := hide (pk_eta _ (show pk s id Z = (noBytes, 9, firstUn m.sigs Z 0) by rw [unhide HPK, pkMsg, if_neg (by rw [unhide HLN]; simp), unhide HCH, if_pos hu]))
        go_wp2
        go_ret3
        exact ⟨by rw [(unhide HP).1, (unhide HP).2.1, (unhide HP).2.2]; rfl, (unhide HB1).trans ((box_below (unhide HB3)).mono (unhide HB1).size)⟩
      · have HP := hide (pk_eta _ (show pk s id Z = (payB (bitsTo m.sigs Z 0 m.sigs.length) m.sz.toNat, 0, 0) by rw [unhide HPK, pkMsg, if_neg (by rw [unhide HLN]; simp), unhide HCH, if_neg hu]))
        go_wp2_with fail
        refine (packBits_any _ _ m.sigs Z 0 _ (ownsRow_below (unhide HSV) (box_below (unhide HB3))) ((unhide HC).below (box_below (unhide HB3))) (unhide HLN) (unhide HG) (unhide HAF)).mono ?_
        rintro e w4 ⟨rfl, hb4⟩
        have HB4 := hide (box_next (unhide HB3) hb4)
        clear hx3 hb4
        have hx4 := box_cell (unhide HB4)
        go_wp2_with fail
        rw [← unhide HSN]
        refine (payloadText_any _ m.sz.toNat _ (by omega)).mono ?_
        rintro e w5 ⟨rfl, hb5⟩
        have HB5 := hide (box_next (unhide HB4) hb5)
        clear hx4 hb5
        go_wp2
        go_ret3
        exact ⟨by rw [(unhide HP).1, (unhide HP).2.1, (unhide HP).2.2]; rfl, (unhide HB1).trans ((box_below (unhide HB5)).mono (unhide HB1).size)⟩
    · have hchx : choiceOf m.sigs Z = zAt Z x := by rw [choiceOf, hmx, if_pos (by omega), Int.toNat_natCast]
      have HCH := hide hchx
      rw [hmx]
      have hi0 : (0 : Int) ≤ (x : Int) := by omega
      have hi1 : (x : Int) < (Z.length : Int) := by omega
      cases za with
      | none => have := unhide HZ2 rfl; omega
      | some xa =>
        have hzc := ints_cell (unhide HZ3 xa rfl) (Below.trans (unhide HB1) ((box_below (unhide HBB)).mono (unhide HB1).size)) (show x < Z.length by omega)
        clear hchx hmx
        go_wp2_with fail
        refine (firstUnfit_any _ _ m.sigs Z (zAt Z x) _ (ownsRow_below (unhide HSV) (box_below (unhide HBB))) ((unhide HC).below (box_below (unhide HBB))) (unhide HLN) (unhide HG)).mono ?_
        rintro e w3 ⟨rfl, hb3⟩
        have HB3 := hide (box_next (unhide HBB) hb3)
        have hx3 := box_cell (unhide HB3)
        clear hb3
        by_cases hu : 0 ≤ firstUn m.sigs Z (zAt Z x)
        · have HP := hide (pk_eta _ (show pk s id Z = (noBytes, 9, firstUn m.sigs Z (zAt Z x)) by rw [unhide HPK, pkMsg, if_neg (by rw [unhide HLN]; simp), unhide HCH, if_pos hu]))
          go_wp2
          go_ret3
          exact ⟨by rw [(unhide HP).1, (unhide HP).2.1, (unhide HP).2.2]; rfl, (unhide HB1).trans ((box_below (unhide HB3)).mono (unhide HB1).size)⟩
        · have HP := hide (pk_eta _ (show pk s id Z = (payB (bitsTo m.sigs Z (zAt Z x) m.sigs.length) m.sz.toNat, 0, 0) by rw [unhide HPK, pkMsg, if_neg (by rw [unhide HLN]; simp), unhide HCH, if_neg hu]))
          go_wp2_with fail
          refine (packBits_any _ _ m.sigs Z (zAt Z x) _ (ownsRow_below (unhide HSV) (box_below (unhide HB3))) ((unhide HC).below (box_below (unhide HB3))) (unhide HLN) (unhide HG) (unhide HAF)).mono ?_
          rintro e w4 ⟨rfl, hb4⟩
          have HB4 := hide (box_next (unhide HB3) hb4)
          clear hx3 hb4
          have hx4 := box_cell (unhide HB4)
          go_wp2_with fail
          rw [← unhide HSN]
          refine (payloadText_any _ m.sz.toNat _ (by omega)).mono ?_
          rintro e w5 ⟨rfl, hb5⟩
          have HB5 := hide (box_next (unhide HB4) hb5)
          clear hx4 hb5
          go_wp2
          go_ret3
          exact ⟨by rw [(unhide HP).1, (unhide HP).2.1, (unhide HP).2.2]; rfl, (unhide HB1).trans ((box_below (unhide HB5)).mono (unhide HB1).size)⟩
  · have HP := hide (pk_eta _ (show pk s id Z = (noBytes, 8, 0) by rw [unhide HPK, pkMsg, if_pos hln]))
    have hl2 : ((Z.length : Int) != (m.sigs.length : Int)) = true := by rw [bne_iff_ne]; omega
    clear hln
    go_wp2
    go_ret3
    exact ⟨by rw [(unhide HP).1, (unhide HP).2.1, (unhide HP).2.2]; rfl, (unhide HB1).alloc (unhide HB1).size _⟩

end Go.Proofs.Ytoihlnjcgopdlaa

namespace Go.Proofs.Ytoihlnjcgopdlaa
open Go.RowKit

/-- What is run: the values in the registers, no mark, no bit. -/
def st0 (Z : List Int) : St := ⟨zAt Z, fun _ => false, 0⟩
/-- P9, as the program answers it. -/
def fillOut (s : ByteArray) (Z : List Int) (sz : Int) : ByteArray × Int × Int :=
  if vE s ≠ 0 then (noBytes, vE s, vP s) else if sz < 0 ∨ 8 < sz then (noBytes, 10, 0) else if 8 < Z.length then (noBytes, 8, 0)
  else if (runL (codeL s) (st0 Z)).2.1 ≠ 0 then (noBytes, (runL (codeL s) (st0 Z)).2.1, (runL (codeL s) (st0 Z)).2.2) else (payB (runL (codeL s) (st0 Z)).1.N sz.toNat, 0, 0)

/-- The first k values are in. -/
def stTo (Z : List Int) (k : Nat) : St := ⟨fun j => if j < k then zAt Z j else 0, fun _ => false, 0⟩
theorem stTo_succ (Z : List Int) (k : Nat) : { stTo Z k with reg := upd (stTo Z k).reg k (zAt Z k) } = stTo Z (k + 1) := by
  simp only [stTo, St.mk.injEq, and_true]
  funext j
  simp only [upd]
  by_cases e : j = k
  · subst e; simp
  · rw [if_neg e]
    by_cases h : j < k
    · rw [if_pos h, if_pos (by omega)]
    · rw [if_neg h, if_neg (by omega)]
theorem stTo_all (Z : List Int) : stTo Z Z.length = st0 Z := by
  simp only [stTo, st0, St.mk.injEq, and_true]
  funext j
  by_cases h : j < Z.length
  · rw [if_pos h]
  · rw [if_neg h, zAt, List.getD_eq_getElem?_getD, List.getElem?_eq_none (by omega)]; rfl

theorem mach_new (w : World) (Z : List Int) : MachAt (w.alloc (.cells #[.int .i64 0, .int .i64 0, .int .i64 0, .int .i64 0, .int .i64 0, .int .i64 0, .int .i64 0, .int .i64 0, .bool false, .bool false, .bool false, .bool false, .bool false, .bool false, .bool false, .bool false, .int .u64 0] 101)) w.heap.size (stTo Z 0) :=
  ⟨rfl, .inr ⟨_, 1, _, rfl, Nat.le_refl _, blk_new _ _, Nat.le_refl _, by simp [maxLen], rfl, rfl⟩⟩

set_option maxRecDepth 100000 in
set_option maxHeartbeats 2000000 in
theorem Fill_any (s : ByteArray) (vz : Value) (Z : List Int) (sz : Int) (w : World) (hz : IntsAt w vz Z) (hzl : Z.length * 8 ≤ 140737488351232) :
    Calls Try.prog 30 #[.string s, vz, .int .i64 sz] w fun e w' => e = .returned (.tuple #[.string (fillOut s Z sz).1, .int .i64 (fillOut s Z sz).2.1, .int .i64 (fillOut s Z sz).2.2]) ∧ Below w.heap.size w w' := by
  have HZ := hide hz
  obtain ⟨za, zcap, rfl, hz1, hz2, hz3⟩ := hz
  have HZ2 := hide hz2
  have HZ3 := hide hz3
  clear hz2 hz3
  go_enter Try.func30, Try.ntmps30
  go_wp2_with fail
  refine (soundCode_any s _).mono ?_
  rintro e w1 ⟨⟨pa, pn, pcap, rfl, hin⟩, hb1⟩
  have HB1 := hide hb1
  clear hb1
  by_cases hve : vE s ≠ 0
  · have HO := hide (pk_eta _ (show fillOut s Z sz = (noBytes, vE s, vP s) by rw [fillOut, if_pos hve]))
    have hve2 : (vE s != 0) = true := by simpa using hve
    clear hve
    go_wp2
    go_ret3
    exact ⟨by rw [(unhide HO).1, (unhide HO).2.1, (unhide HO).2.2]; rfl, unhide HB1⟩
  have hve : vE s = 0 := by omega
  have HIN := hide (hin hve)
  have HVE := hide hve
  have hve2 : (vE s != 0) = false := by rw [hve]; rfl
  clear hin hve
  by_cases hs0 : sz < 0
  · have HO := hide (pk_eta _ (show fillOut s Z sz = (noBytes, 10, 0) by rw [fillOut, if_neg (by rw [unhide HVE]; simp), if_pos (.inl hs0)]))
    go_wp2
    go_ret3
    exact ⟨by rw [(unhide HO).1, (unhide HO).2.1, (unhide HO).2.2]; rfl, unhide HB1⟩
  by_cases hs8 : 8 < sz
  · have HO := hide (pk_eta _ (show fillOut s Z sz = (noBytes, 10, 0) by rw [fillOut, if_neg (by rw [unhide HVE]; simp), if_pos (.inr hs8)]))
    go_wp2
    go_ret3
    exact ⟨by rw [(unhide HO).1, (unhide HO).2.1, (unhide HO).2.2]; rfl, unhide HB1⟩
  by_cases hl8 : 8 < Z.length
  · have HO := hide (pk_eta _ (show fillOut s Z sz = (noBytes, 8, 0) by rw [fillOut, if_neg (by rw [unhide HVE]; simp), if_neg (by omega), if_pos hl8]))
    have hl8' : (8 : Int) < (Z.length : Int) := by omega
    go_wp2
    go_ret3
    exact ⟨by rw [(unhide HO).1, (unhide HO).2.1, (unhide HO).2.2]; rfl, unhide HB1⟩
  have HO := hide (show fillOut s Z sz = if (runL (codeL s) (st0 Z)).2.1 ≠ 0 then (noBytes, (runL (codeL s) (st0 Z)).2.1, (runL (codeL s) (st0 Z)).2.2) else (payB (runL (codeL s) (st0 Z)).1.N sz.toNat, 0, 0) by rw [fillOut, if_neg (by rw [unhide HVE]; simp), if_neg (by omega), if_neg hl8])
  have hl8' : (Z.length : Int) ≤ 8 := by omega
  obtain ⟨R, HR⟩ : ∃ R, Hid (R = runL (codeL s) (st0 Z)) := ⟨_, hide rfl⟩
  rw [← unhide HR] at HO
  go_wp2
  go_loopw [13] (fun i wr => ∃ k : Nat, k ≤ Z.length ∧ i = .int .i64 k ∧ MachAt wr w1.heap.size (stTo Z k) ∧ Below w1.heap.size w1 wr) (fun i _ => Z.length - (intOf i).toNat)
  case atStart => exact ⟨0, by omega, rfl, mach_new w1 Z, (Below.refl _ _).alloc (Nat.le_refl _) _⟩
  case round =>
    obtain ⟨k, hk, rfl, hm, hb⟩ := hrel
    have HM := hide hm
    have HB := hide hb
    clear hm hb
    by_cases hlt : k < Z.length
    · cases za with
      | none => have := unhide HZ2 rfl; omega
      | some xa =>
        have hzc := ints_cell (unhide HZ3 xa rfl) ((unhide HB1).trans ((unhide HB).mono (unhide HB1).size)) hlt
        have hrc := (unhide HM).reg (show k < 8 by omega)
        have hfr := (unhide HM).free k
        have hi0 : (0 : Int) ≤ (k : Int) := by omega
        have hi1 : (k : Int) < (Z.length : Int) := by omega
        have hi2 : (k : Int) < 8 := by omega
        go_wp2
        go_roundw
        case rel => exact ⟨k + 1, by omega, by go_num, by rw [← stTo_succ]; exact (unhide HM).setReg (by omega) _, (unhide HB).setCell (Nat.le_refl _) _⟩
        case measure => simp [intOf]; omega
    · have hkz : k = Z.length := by omega
      rw [hkz, stTo_all] at HM
      clear hkz
      go_wp2_with fail
      refine (run_any w1.heap.size _ (codeL s) (st0 Z) w1 _ (unhide HIN) (Nat.le_refl _) (unhide HB) (unhide HM) (by simp [st0]) (code_fine (unhide HVE)).1 (code_fine (unhide HVE)).2).mono ?_
      rintro e w2 ⟨rfl, hm2, _, hb2⟩
      rw [← unhide HR] at hm2 ⊢
      have HM2 := hide hm2
      have HB2 := hide ((unhide HB1).trans (((unhide HB).trans hb2).mono (unhide HB1).size))
      clear hm2 hb2
      by_cases hre : R.2.1 ≠ 0
      · have HP := hide (pk_eta _ (show fillOut s Z sz = (noBytes, R.2.1, R.2.2) by rw [unhide HO, if_pos hre]))
        have hre2 : (R.2.1 != 0) = true := by simpa using hre
        clear hre
        go_wp2
        go_ret3
        exact ⟨by rw [(unhide HP).1, (unhide HP).2.1, (unhide HP).2.2]; rfl, unhide HB2⟩
      · have HP := hide (pk_eta _ (show fillOut s Z sz = (payB R.1.N sz.toNat, 0, 0) by rw [unhide HO, if_neg hre]))
        have hre2 : (R.2.1 != 0) = false := by simpa using hre
        have hnc := (unhide HM2).bits
        obtain ⟨q, hq⟩ : ∃ q : Nat, sz = q := ⟨sz.toNat, by omega⟩
        have HQ := hide hq
        clear hre hq
        go_wp2_with fail
        rw [unhide HQ]
        refine (payloadText_any R.1.N q _ (by have := unhide HQ; omega)).mono ?_
        rintro e w3 ⟨rfl, hb3⟩
        have HB3 := hide ((unhide HB2).trans (hb3.mono (unhide HB2).size))
        clear hb3 hnc
        go_wp2
        go_ret3
        refine ⟨?_, unhide HB3⟩
        rw [(unhide HP).1, (unhide HP).2.1, (unhide HP).2.2, unhide HQ, Int.toNat_natCast]; rfl

end Go.Proofs.Ytoihlnjcgopdlaa

namespace Go.Proofs.Ytoihlnjcgopdlaa
open Go.RowKit

theorem Verify_any (s : ByteArray) (w : World) :
    Calls Try.prog 28 #[.string s] w fun e w' => e = .returned (.tuple #[.int .i64 (vE s), .int .i64 (vP s)]) ∧ Below w.heap.size w w' := by
  go_enter Try.func28, Try.ntmps28
  go_wp2_with fail
  refine (soundCode_any s _).mono ?_
  rintro e w1 ⟨⟨a, n, cap, rfl, _⟩, hb⟩
  go_wp2
  go_ret2
  exact ⟨rfl, hb⟩

/-- The signs of the first k registers; the eight registers. -/
def signM (s : St) (j : Nat) : Int := if s.mark j then 43 else 45
def signsM (s : St) (k : Nat) : List Int := (List.range k).map (signM s)
theorem signsM_succ (s : St) (k : Nat) : signsM s (k + 1) = signsM s k ++ [signM s k] := by simp [signsM, List.range_succ]
theorem signsM_len (s : St) (k : Nat) : (signsM s k).length = k := by simp [signsM]
def regsM (s : St) (k : Nat) : List Int := (List.range k).map s.reg
theorem regsM_succ (s : St) (k : Nat) : regsM s (k + 1) = regsM s k ++ [s.reg k] := by simp [regsM, List.range_succ]
theorem regsM_len (s : St) (k : Nat) : (regsM s k).length = k := by simp [regsM]

set_option maxRecDepth 100000 in
set_option maxHeartbeats 2000000 in
theorem signs_any (g : Nat) (s : St) (w : World) (hm : MachAt w g s) :
    Calls Try.prog 60 #[.pointer (some ⟨g, 0, none⟩)] w fun e w' => e = .returned (.string (strOfNums (signsM s 8))) ∧ Below w.heap.size w w' := by
  obtain ⟨i0, hinf, hz0, hz1, hz2⟩ := info_parts Try.infoU8
  have HINF := hide hinf
  have HZ0 := hide hz0
  have HZ1 := hide hz1
  have HZ2 := hide hz2
  have HM := hide hm
  clear hinf hz0 hz1 hz2 hm
  go_enter Try.func60, Try.ntmps60
  go_wp2
  go_loopw [3, 4] (fun v i wr => ∃ k : Nat, k ≤ 8 ∧ i = .int .i64 k ∧ wr.ownsRow w.heap.size 5 1 v k ((signsM s k).map (Value.int .u8)) ∧ Below w.heap.size w wr) (fun _ i _ => 8 - (intOf i).toNat)
  case atStart => exact ⟨0, by omega, rfl, ⟨by simp [signsM], .inr ⟨_, 0, #[], rfl, Nat.le_refl _, blk_new _ _, by simp, by simp [maxLen], by simp, by simp [signsM]⟩⟩, (Below.refl _ _).alloc (Nat.le_refl _) _⟩
  case round =>
    obtain ⟨k, hk, rfl, hown, hb⟩ := hrel
    obtain ⟨sa, cap, rfl⟩ := ownsRow_form hown
    have HOWN := hide hown
    have HB := hide hb
    clear hown hb
    by_cases hlt : k < 8
    · have hmk := ((unhide HM).bel (unhide HB)).mark hlt
      have hi0 : (0 : Int) ≤ (k : Int) := by omega
      have hi1 : (k : Int) < 8 := by omega
      cases hon : s.mark k with
      | true =>
        rw [hon] at hmk
        have HSG := hide (show signM s k = 43 by simp [signM, hon])
        clear hon
        go_wp2_with (at_builtin; refine wpList_append_own _ rfl _ _ 38 rfl w.heap.size 5 i0 _ 1 1 Try.underlying38 (unhide HINF) (unhide HZ0) (unhide HZ1) (unhide HZ2) rfl (by decide) _ _ _ rfl ((unhide HOWN).alloc _) ⟨wr.heap.size, 0, none⟩ 1 1 [.int .u8 43] rfl rfl ?c1 ?c2 ?c3 ?c4 ?c5 ?_)
        case c1 => exact new_cells (blk_new _ _)
        case c2 => simp [Value.oneCell']
        case c3 => unfold maxLen; omega
        case c4 => omega
        case c5 => have := (unhide HB).size; simp; omega
        intro v3 w3 hown3 hgrow _
        obtain ⟨a3, cap3, rfl⟩ := ownsRow_form hown3
        have HB3 := hide (Below.grown ((unhide HB).alloc (unhide HB).size _) hgrow (by have := (unhide HB).size; simp; omega) (fun k hk => ((unhide HOWN).lt k hk).1))
        have HOWN3 := hide hown3
        clear hown3 hgrow hmk
        go_wp2
        go_roundw
        case rel =>
          refine ⟨k + 1, by omega, by go_num, ?_, unhide HB3⟩
          have := unhide HOWN3
          rw [signsM_succ, List.map_append, unhide HSG]
          exact this
        case measure => simp [intOf]; omega
      | false =>
        rw [hon] at hmk
        have HSG := hide (show signM s k = 45 by simp [signM, hon])
        clear hon
        go_wp2_with (at_builtin; refine wpList_append_own _ rfl _ _ 38 rfl w.heap.size 5 i0 _ 1 1 Try.underlying38 (unhide HINF) (unhide HZ0) (unhide HZ1) (unhide HZ2) rfl (by decide) _ _ _ rfl ((unhide HOWN).alloc _) ⟨wr.heap.size, 0, none⟩ 1 1 [.int .u8 45] rfl rfl ?c1 ?c2 ?c3 ?c4 ?c5 ?_)
        case c1 => exact new_cells (blk_new _ _)
        case c2 => simp [Value.oneCell']
        case c3 => unfold maxLen; omega
        case c4 => omega
        case c5 => have := (unhide HB).size; simp; omega
        intro v3 w3 hown3 hgrow _
        obtain ⟨a3, cap3, rfl⟩ := ownsRow_form hown3
        have HB3 := hide (Below.grown ((unhide HB).alloc (unhide HB).size _) hgrow (by have := (unhide HB).size; simp; omega) (fun k hk => ((unhide HOWN).lt k hk).1))
        have HOWN3 := hide hown3
        clear hown3 hgrow hmk
        go_wp2
        go_roundw
        case rel =>
          refine ⟨k + 1, by omega, by go_num, ?_, unhide HB3⟩
          have := unhide HOWN3
          rw [signsM_succ, List.map_append, unhide HSG]
          exact this
        case measure => simp [intOf]; omega
    · have hkn : k = 8 := by omega
      have hconv := conv_row (unhide HOWN)
      have HK := hide hkn
      clear hkn
      go_wp2
      go_ret
      exact ⟨by rw [← unhide HK]; rfl, unhide HB⟩

end Go.Proofs.Ytoihlnjcgopdlaa

namespace Go.Proofs.Ytoihlnjcgopdlaa
open Go.RowKit

theorem errOf_reach {L E : List Sg} {s : Sg} {sz : Int} (h : errOf L E s sz = 0) : anyIx (fun k => decide (8 * sz ≤ place s.st s.ln s.od k)) s.ln.toNat = false := by
  cases e : anyIx (fun k => decide (8 * sz ≤ place s.st s.ln s.od k)) s.ln.toNat with
  | false => rfl
  | true =>
    exfalso
    rw [errOf] at h
    split at h
    · omega
    · split at h
      · omega
      · split at h
        · omega
        · first | omega | (rw [if_pos e] at h; omega)

/-- Every bit of every signal lies within the payload. -/
def Within (L : List Sg) (sz : Int) : Prop := ∀ k, k < L.length → ∀ i : Nat, (i : Int) < (sgAt L k).ln → place (sgAt L k).st (sgAt L k).ln (sgAt L k).od i < 8 * sz

theorem sound_within {s : ByteArray} {M : List Mg} (hz : chkE s = 0) (h : pDb s 4 0 = .inr M) {k : Nat} (hk : k < M.length) : Within (mAt M k).sigs (mAt M k).sz := by
  intro j hj i hi
  have h1 := errOf_reach (sound_at hz h hk hj)
  cases e : decide (8 * (mAt M k).sz ≤ place (sgAt (mAt M k).sigs j).st (sgAt (mAt M k).sigs j).ln (sgAt (mAt M k).sigs j).od i) with
  | false => simp at e; omega
  | true => rw [anyIx_true.2 ⟨i, by omega, e⟩] at h1; cases h1

theorem and_one_i64 (x : Int) (h0 : 0 ≤ x) (h1 : x < 9223372036854775808) : bits BinOp.and IntKind.i64 x 1 = x % 2 := by
  have := bits_mask .i64 63 (by decide) (fun n a b => by rw [IntKind.wrap_i64]; omega) 1 (by decide) x h0 (by omega)
  simpa using this

theorem layTo_one {st ln od v : Int} {k : Nat} (h : bitv v k = 1) : layTo st ln od v (k + 1) = layTo st ln od v k ||| 2 ^ (place st ln od k).toNat := by
  rw [layTo, h, Nat.one_mul]
theorem layTo_zero {st ln od v : Int} {k : Nat} (h : bitv v k = 0) : layTo st ln od v (k + 1) = layTo st ln od v k := by
  rw [layTo, h, Nat.zero_mul, Nat.or_zero]

theorem firstUn_none {L : List Sg} {Z : List Int} {c : Int} (h : firstUn L Z c < 0) : ∀ k, k < L.length → activeB (sgAt L k).rl c = true → fitsB (sgAt L k).kd (sgAt L k).ln (zAt Z k) = true := by
  intro k hk ha
  rcases findIx_cases (unfit L Z c) L.length with ⟨_, h2⟩ | ⟨j, _, h2, _⟩
  · have := h2 k hk
    rw [unfit, ha] at this
    simpa using this
  · exfalso; rw [firstUn, h2] at h; omega

end Go.Proofs.Ytoihlnjcgopdlaa

namespace Go.Proofs.Ytoihlnjcgopdlaa
open Go.RowKit

/-- Bit q of a payload's number. -/
def bitN (N q : Nat) : Nat := N / 2 ^ q % 2
theorem bitN_lt (N q : Nat) : bitN N q < 2 := Nat.mod_lt _ (by omega)
/-- What the first k bits of a signal are worth together. -/
def heldTo (st ln od : Int) (N : Nat) : Nat → Nat
  | 0 => 0
  | k + 1 => heldTo st ln od N k + bitN N (place st ln od k).toNat * 2 ^ k
theorem heldTo_lt (st ln od : Int) (N k : Nat) : heldTo st ln od N k < 2 ^ k := by
  induction k with
  | zero => simp [heldTo]
  | succ k ih =>
    have hb := bitN_lt N (place st ln od k).toNat
    rw [heldTo, Nat.pow_succ]
    obtain h | h : bitN N (place st ln od k).toNat = 0 ∨ bitN N (place st ln od k).toNat = 1 := by omega
    · rw [h]; omega
    · rw [h]; omega
/-- What a signal holds in a payload. -/
def heldV (st ln od kd : Int) (N : Nat) : Int := if kd = 115 ∧ half ln ≤ (heldTo st ln od N ln.toNat : Int) then (heldTo st ln od N ln.toNat : Int) - 2 * half ln else (heldTo st ln od N ln.toNat : Int)

theorem held_and (N : Nat) (q : Nat) (hN : N < 18446744073709551616) : bits BinOp.and IntKind.u64 ((N : Int) / 2 ^ q) 1 = (bitN N q : Int) := by
  have e : ((N : Int) / 2 ^ q) = ((N / 2 ^ q : Nat) : Int) := by simp
  have hle : N / 2 ^ q ≤ N := Nat.div_le_self _ _
  rw [e]
  generalize hx : N / 2 ^ q = x at *
  rw [and_one_u64 (x : Int) (by omega) (by omega), bitN, hx]; omega
theorem pow32 (k : Nat) (h : k ≤ 32) : (2 : Int) ^ k ≤ 4294967296 ∧ 1 ≤ (2 : Int) ^ k := by
  have h1 : (2 : Nat) ^ k ≤ 2 ^ 32 := Nat.pow_le_pow_right (by omega) h
  have e1 : (2 : Nat) ^ 32 = 4294967296 := rfl
  have e : ((2 : Int) ^ k) = ((2 ^ k : Nat) : Int) := by simp
  have h2 : 0 < 2 ^ k := Nat.two_pow_pos k
  rw [e]; omega

theorem held_step (st ln od : Int) (N k : Nat) (hk : k ≤ 31) (b : Nat) (hb : b = bitN N (place st ln od k).toNat) : wrap64 ((heldTo st ln od N k : Int) + wrap64 ((b : Int) * 2 ^ k)) = (heldTo st ln od N (k + 1) : Int) := by
  have hl := bitN_lt N (place st ln od k).toNat
  have h1 := pow32 k (by omega)
  have h2 := heldTo_lt st ln od N k
  have e : ((2 : Int) ^ k) = ((2 ^ k : Nat) : Int) := by simp
  rw [heldTo, ← hb]
  rw [← hb] at hl
  rw [e] at h1 ⊢
  generalize 2 ^ k = y at *
  generalize heldTo st ln od N k = x at *
  obtain rfl | rfl : b = 0 ∨ b = 1 := by omega
  · simp only [wrap64]; omega
  · simp only [wrap64]; omega

set_option maxRecDepth 100000 in
set_option maxHeartbeats 1000000 in
theorem heldValue_any (a0 a1 st ln od kd a6 : Int) (N : Nat) (w : World) (h0 : 0 ≤ st) (h1 : st ≤ 63) (h2 : 1 ≤ ln) (h3 : ln ≤ 32) (h4 : od = 60 ∨ od = 62) (h5 : kd = 117 ∨ kd = 115) (hp : ∀ i, 0 ≤ i → i < ln → place st ln od i ≤ 63) (hN : N < 18446744073709551616) :
    Calls Try.prog 76 #[.agg #[.int .i64 a0, .int .u8 a1, .int .i64 st, .int .i64 ln, .int .u8 od, .int .u8 kd, .int .u8 a6], .int .u64 N] w
      fun e w' => e = .returned (.int .i64 (heldV st ln od kd N)) ∧ Below w.heap.size w w' := by
  have H4 := hide h4
  have H5 := hide h5
  have HP := hide hp
  have HN := hide hN
  clear h4 h5 hp hN
  go_enter Try.func76, Try.ntmps76
  go_wp2
  go_loopw [5, 6, 7, 8] (fun v i _ _ wr => ∃ k : Nat, (k : Int) ≤ ln ∧ i = .int .i64 k ∧ v = .int .i64 (heldTo st ln od N k) ∧ Below (w.heap.size + 1) (w.alloc (.cells #[.int .i64 a0, .int .u8 a1, .int .i64 st, .int .i64 ln, .int .u8 od, .int .u8 kd, .int .u8 a6] 121)) wr) (fun _ i _ _ _ => (ln - intOf i).toNat)
  case atStart => exact ⟨0, by omega, rfl, rfl, Below.refl _ _⟩
  case round =>
    obtain ⟨k, hk, rfl, rfl, hb⟩ := hrel
    have HB := hide hb
    have hc := box_cell hb
    clear hb
    have hht := heldTo_lt st ln od N k
    have hp32 := pow32 k (by omega)
    have hhb : (heldTo st ln od N k : Int) < 2 ^ k := by have e : ((2 : Int) ^ k) = ((2 ^ k : Nat) : Int) := by simp
                                                         rw [e]; omega
    by_cases hlt : (k : Int) < ln
    · have hp0 := place_lo st ln od k h0 (by omega) hlt
      have hp1 := unhide HP k (by omega) hlt
      have hand := held_and N (place st ln od k).toNat (unhide HN)
      obtain ⟨bq, HBQ⟩ : ∃ b : Nat, Hid (b = bitN N (place st ln od k).toNat) := ⟨_, hide rfl⟩
      rw [← unhide HBQ] at hand
      have hbl : bq < 2 := by rw [unhide HBQ]; exact bitN_lt _ _
      have HHT := hide hht
      have HHB := hide hhb
      have HP32 := hide hp32
      clear hht hp32 hhb
      go_wp2_with fail
      refine (bitPlace_any a0 a1 st ln od kd a6 k wr h0 h1 h2 h3 (unhide H4) (by omega) hlt).mono ?_
      rintro e w' ⟨rfl, hb'⟩
      go_wp2
      go_roundw
      case rel => exact ⟨k + 1, by omega, by go_num, by rw [held_step st ln od N k (by omega) bq (unhide HBQ)], box_next (unhide HB) hb'⟩
      case measure => simp [intOf]; omega
    · have hkn : ln.toNat = k := by omega
      have hub : (heldTo st ln od N k : Int) < 2 * half ln := by rw [← pow_half ln h2, hkn]; exact hhb
      have HV0 := hide (show kd = 117 → heldV st ln od kd N = (heldTo st ln od N k : Int) by intro hk1; rw [heldV, hkn, if_neg (fun hx => by omega)])
      have HV1 := hide (show kd = 115 → heldV st ln od kd N = extV (heldTo st ln od N k : Int) ln by
        intro hk1
        rw [heldV, hkn, extV, Int.emod_eq_of_lt (by omega) hub]
        by_cases hge : half ln ≤ (heldTo st ln od N k : Int)
        · rw [if_pos ⟨hk1, hge⟩, if_pos hge]
        · rw [if_neg (fun hx => hge hx.2), if_neg hge])
      generalize heldTo st ln od N k = x at *
      clear hht hhb hp32 hkn hub
      rcases unhide H5 with rfl | rfl
      · go_wp2
        go_ret
        exact ⟨ret_int (by rw [unhide HV0 (by first | rfl | trivial)]), box_below (unhide HB)⟩
      · go_wp2_with fail
        refine (extended_any _ ln _ h2 h3).mono ?_
        rintro e w' ⟨rfl, rfl⟩
        go_wp2
        go_ret
        exact ⟨ret_int (by rw [unhide HV1 (by first | rfl | trivial)]), box_below (unhide HB)⟩

/-- The number that a payload is. -/
def payTo (p : ByteArray) : Nat → Nat
  | 0 => 0
  | k + 1 => payTo p k ||| ((bt p k).toNat * 2 ^ (8 * k))
theorem payTo_lt (p : ByteArray) (k : Nat) : payTo p k < 2 ^ (8 * k) := by
  induction k with
  | zero => simp [payTo]
  | succ k ih =>
    rw [payTo]
    have h1 := bt_lo p k
    have h2 := bt_hi p k
    refine Nat.or_lt_two_pow (Nat.lt_of_lt_of_le ih (Nat.pow_le_pow_right (by omega) (by omega))) ?_
    rw [show 8 * (k + 1) = 8 + 8 * k by omega, Nat.pow_add]
    exact Nat.mul_lt_mul_of_pos_right (by omega) (Nat.two_pow_pos _)
theorem payTo_64 (p : ByteArray) (k : Nat) (h : k ≤ 8) : payTo p k < 18446744073709551616 := by
  have e : (18446744073709551616 : Nat) = 2 ^ 64 := rfl
  rw [e]
  exact Nat.lt_of_lt_of_le (payTo_lt p k) (Nat.pow_le_pow_right (by omega) (by omega))
theorem pay_step (p : ByteArray) (k : Nat) (hk : k < p.size) (h8 : k < 8) : bits BinOp.or IntKind.u64 (payTo p k : Int) (IntKind.u64.wrap (IntKind.u64.wrap (p[k].toNat : Int) * 2 ^ (8 * k))) = (payTo p (k + 1) : Nat) := by
  have hin : IntKind.u64.wrap (p[k].toNat : Int) = (p[k].toNat : Int) := by have := (p[k]).toNat_lt; rw [IntKind.wrap_u64]; omega
  rw [hin]
  have e0 := bt_of hk
  have h1 := bt_lo p k
  have h2 := bt_hi p k
  have e1 : (p[k].toNat : Int) * 2 ^ (8 * k) = (((bt p k).toNat * 2 ^ (8 * k) : Nat) : Int) := by
    rw [e0]
    have : bt p k = ((bt p k).toNat : Int) := by omega
    rw [this]; simp
  have hlt : (bt p k).toNat * 2 ^ (8 * k) < 18446744073709551616 := by
    have e : (18446744073709551616 : Nat) = 2 ^ 64 := rfl
    rw [e]
    refine Nat.lt_of_lt_of_le ?_ (Nat.pow_le_pow_right (n := 2) (by omega) (show 8 + 8 * k ≤ 64 by omega))
    rw [Nat.pow_add]
    exact Nat.mul_lt_mul_of_pos_right (by omega) (Nat.two_pow_pos _)
  rw [e1, IntKind.wrap_u64]
  generalize hy : (bt p k).toNat * 2 ^ (8 * k) = y at *
  rw [show (y : Int) % 18446744073709551616 = (y : Int) by omega, u64_or_nat _ _ (payTo_64 p k (by omega)) hlt, payTo, hy]

set_option maxRecDepth 100000 in
set_option maxHeartbeats 1000000 in
theorem payloadBits_any (p : ByteArray) (w : World) (h8 : p.size ≤ 8) :
    Calls Try.prog 48 #[.string p] w fun e w' => e = .returned (.int .u64 (payTo p p.size)) ∧ w' = w := by
  go_enter Try.func48, Try.ntmps48
  go_wp2
  go_loop [3, 4] (fun b i => ∃ k : Nat, k ≤ p.size ∧ i = .int .i64 k ∧ b = .int .u64 (payTo p k)) (fun _ i => p.size - (intOf i).toNat)
  case atStart => exact ⟨0, by omega, rfl, rfl⟩
  case round =>
    obtain ⟨k, hk, rfl, rfl⟩ := hrel
    by_cases hlt : k < p.size
    · have HS := hide (pay_step p k hlt (by omega))
      have hph := payTo_64 p k (by omega)
      go_wp2
      go_round
      case rel => exact ⟨k + 1, by omega, by go_num, by rw [← unhide HS]⟩
      case measure => simp [intOf]; omega
    · have hkn : k = p.size := by omega
      have HK := hide hkn
      clear hkn
      go_wp2
      go_ret
      exact ⟨ret_u64 (by rw [unhide HK]), rfl⟩

end Go.Proofs.Ytoihlnjcgopdlaa

namespace Go.Proofs.Ytoihlnjcgopdlaa
open Go.RowKit

theorem bitN_test (N q : Nat) : bitN N q = if N.testBit q then 1 else 0 := by
  rw [bitN, Nat.testBit_eq_decide_div_mod_eq]
  have : N / 2 ^ q % 2 < 2 := Nat.mod_lt _ (by omega)
  by_cases h : N / 2 ^ q % 2 = 1
  · simp [h]
  · simp [h]; omega

theorem byte_test (p : ByteArray) (k i : Nat) (h : 8 ≤ i) : ((bt p k).toNat).testBit i = false := by
  have h1 := bt_lo p k
  have h2 := bt_hi p k
  apply Nat.testBit_lt_two_pow
  have e : (256 : Nat) = 2 ^ 8 := rfl
  have : 2 ^ 8 ≤ 2 ^ i := Nat.pow_le_pow_right (by omega) h
  omega

theorem payTo_test (p : ByteArray) (n b : Nat) : (payTo p n).testBit b = (decide (b / 8 < n) && ((bt p (b / 8)).toNat).testBit (b % 8)) := by
  induction n with
  | zero => simp [payTo]
  | succ n ih =>
    rw [payTo, Nat.testBit_or, ih, Nat.testBit_mul_two_pow]
    by_cases h : b / 8 = n
    · have e1 : b - 8 * n = b % 8 := by omega
      have e2 : 8 * n ≤ b := by omega
      simp [h, e1, e2]
    · by_cases h2 : b / 8 < n
      · have e2 : ¬ 8 * n ≤ b := by omega
        have e3 : b / 8 < n + 1 := by omega
        simp [h2, e2, e3]
      · have e3 : ¬ b / 8 < n + 1 := by omega
        have e4 : 8 ≤ b - 8 * n := by omega
        simp [h2, e3, byte_test p n _ e4]

theorem payTo_bit (p : ByteArray) (n b : Nat) (h : b / 8 < n) : bitN (payTo p n) b = (bt p (b / 8)).toNat / 2 ^ (b % 8) % 2 := by
  have e : (bt p (b / 8)).toNat / 2 ^ (b % 8) % 2 = bitN (bt p (b / 8)).toNat (b % 8) := rfl
  rw [e, bitN_test, bitN_test, payTo_test]
  simp [h]

theorem get_val (p : ByteArray) (b : Nat) (hq : b / 8 < p.size) : bits BinOp.and IntKind.i64 (wrap64 ((p[b / 8].toNat : Int) / 2 ^ (b % 8))) 1 = (bitN (payTo p p.size) b : Int) := by
  rw [payTo_bit p p.size b hq]
  have e0 := bt_of hq
  have h1 := bt_lo p (b / 8)
  have h2 := bt_hi p (b / 8)
  have hlt := (p[b / 8]).toNat_lt
  have e2 : (bt p (b / 8)).toNat = p[b / 8].toNat := by omega
  rw [e2]
  have e1 : ((p[b / 8].toNat : Int) / 2 ^ (b % 8)) = ((p[b / 8].toNat / 2 ^ (b % 8) : Nat) : Int) := by simp
  have hle : p[b / 8].toNat / 2 ^ (b % 8) ≤ p[b / 8].toNat := Nat.div_le_self _ _
  rw [e1]
  generalize p[b / 8].toNat / 2 ^ (b % 8) = y at *
  have e3 : wrap64 (y : Int) = (y : Int) := by simp only [wrap64]; omega
  rw [e3, and_one_i64 _ (by omega) (by omega)]
  omega

set_option maxRecDepth 100000 in
set_option maxHeartbeats 400000 in
theorem rGet_any (p : ByteArray) (b : Nat) (w : World) (h8 : p.size ≤ 8) (hb : b < 8 * p.size) :
    Calls Try.prog 52 #[.string p, .int .i64 b] w fun e w' => e = .returned (.int .i64 (bitN (payTo p p.size) b)) ∧ w' = w := by
  have hq : b / 8 < p.size := by omega
  have h3 : (0 : Int) ≤ (b : Int) / 8 := by omega
  have h4 : (b : Int) / 8 < (p.size : Int) := by omega
  have hx := payTo_bit p p.size b hq
  have HX := hide hx
  have hm0 : (0 : Int) ≤ (b : Int) % 8 := by omega
  have hm1 : (b : Int) % 8 < 8 := by omega
  clear hx
  go_enter Try.func52, Try.ntmps52
  go_wp2
  go_ret
  exact ⟨ret_int (get_val p b hq), rfl⟩

theorem heldV_top (st ln od kd : Int) (N : Nat) (h0 : 1 ≤ ln) : heldV st ln od kd N = if kd = 115 then (heldTo st ln od N ln.toNat : Int) - (bitN N (place st ln od (ln - 1)).toNat : Int) * (2 * half ln) else (heldTo st ln od N ln.toNat : Int) := by
  obtain ⟨n, hn⟩ : ∃ n : Nat, ln = (n : Int) + 1 := ⟨(ln - 1).toNat, by omega⟩
  have h1 : ln.toNat = n + 1 := by omega
  have h2 : ln - 1 = (n : Int) := by omega
  have hlt := heldTo_lt st ln od N n
  have hb := bitN_lt N (place st ln od n).toNat
  have hh : half ln = ((2 ^ n : Nat) : Int) := by unfold half; rw [h1]; simp
  unfold heldV
  rw [h1, h2, heldTo, hh]
  generalize 2 ^ n = y at *
  generalize heldTo st ln od N n = x at *
  by_cases hk : kd = 115
  · rw [if_pos hk]
    obtain h | h : bitN N (place st ln od n).toNat = 0 ∨ bitN N (place st ln od n).toNat = 1 := by omega
    · rw [h, if_neg (by intro h'; have := h'.2; simp at this; omega)]; simp
    · rw [h, if_pos ⟨hk, by simp; omega⟩]; simp
  · rw [if_neg hk, if_neg (fun h => hk h.1)]

theorem top_step (x b : Nat) (hh : Int) (hb : b < 2) (hx : (x : Int) < 2 * hh) (h1 : 1 ≤ hh) (h2 : hh ≤ 2147483648) : wrap64 ((x : Int) - wrap64 ((b : Int) * (2 * hh))) = (x : Int) - (b : Int) * (2 * hh) := by
  obtain rfl | rfl : b = 0 ∨ b = 1 := by omega
  · simp only [wrap64]; omega
  · simp only [wrap64]; omega

set_option maxRecDepth 100000 in
set_option maxHeartbeats 1000000 in
theorem rHolds_any (a0 st ln od kd a5 a6 : Int) (p : ByteArray) (w : World) (h0 : 0 ≤ st) (h1 : st ≤ 63) (h2 : 1 ≤ ln) (h3 : ln ≤ 32) (h4 : od = 60 ∨ od = 62) (h8 : p.size ≤ 8) (hp : ∀ i : Nat, (i : Int) < ln → place st ln od i < 8 * (p.size : Int)) :
    Calls Try.prog 77 #[.agg #[.int .u8 a0, .int .i64 st, .int .i64 ln, .bool (decide (od = 62)), .bool (decide (kd = 115)), .int .u8 a5, .int .i64 a6], .string p] w
      fun e w' => e = .returned (.int .i64 (heldV st ln od kd (payTo p p.size))) ∧ Below w.heap.size w w' := by
  have H4 := hide h4
  have HP := hide hp
  clear h4 hp
  obtain ⟨N, HNN⟩ : ∃ N, Hid (N = payTo p p.size) := ⟨_, hide rfl⟩
  rw [← unhide HNN]
  obtain ⟨x1, X1⟩ : ∃ x, Hid (x = decide (od = 62)) := ⟨_, hide rfl⟩
  obtain ⟨x2, X2⟩ : ∃ x, Hid (x = decide (kd = 115)) := ⟨_, hide rfl⟩
  rw [← unhide X1, ← unhide X2]
  have hpw := pow_half ln h2
  have hhp := half_pos ln
  have hhu := half_le ln h3
  obtain ⟨hh, HH⟩ : ∃ x, Hid (x = half ln) := ⟨_, hide rfl⟩
  have HPW := hide hpw
  rw [← unhide HH] at hpw hhp hhu
  have HV := hide (heldV_top st ln od kd N h2)
  rw [← unhide HH] at HV
  go_enter Try.func77, Try.ntmps77
  go_wp2
  go_loopw [5, 6, 7, 8] (fun v i _ _ wr => ∃ k : Nat, (k : Int) ≤ ln ∧ i = .int .i64 k ∧ ((k : Int) < ln → v = .int .i64 (heldTo st ln od N k)) ∧ ((k : Int) = ln → v = .int .i64 (heldV st ln od kd N)) ∧ Below (w.heap.size + 1) (w.alloc (.cells #[.int .u8 a0, .int .i64 st, .int .i64 ln, .bool x1, .bool x2, .int .u8 a5, .int .i64 a6] 71)) wr) (fun _ i _ _ _ => (ln - intOf i).toNat)
  case atStart => exact ⟨0, by omega, rfl, fun _ => rfl, fun h => by omega, Below.refl _ _⟩
  case round =>
    obtain ⟨k, hk, rfl, hv1, hv2, hb⟩ := hrel
    have HB := hide hb
    have hc := box_cell hb
    clear hb
    by_cases hlt : (k : Int) < ln
    · have hv := hv1 hlt
      subst hv
      clear hv1 hv2
      obtain ⟨bq, HBQ⟩ : ∃ b : Nat, Hid (b = bitN N (place st ln od k).toNat) := ⟨_, hide rfl⟩
      have hbl : bq < 2 := by rw [unhide HBQ]; exact bitN_lt _ _
      have hp0 := place_lo st ln od k h0 (by omega) hlt
      have hp1 := unhide HP k hlt
      have HPN := hide (Int.toNat_of_nonneg hp0).symm
      have HST := hide (held_step st ln od N k (by omega) bq (unhide HBQ))
      go_wp2_with fail
      rw [unhide X1, unhide X2]
      refine (rBit_any a0 st ln a5 a6 k od kd wr h0 h1 h2 h3 (unhide H4) (by omega) hlt).mono ?_
      rintro e w' ⟨rfl, hb'⟩
      rw [← unhide X1, ← unhide X2]
      have HB' := hide (box_next (unhide HB) hb')
      clear hb' hc
      have hc := box_cell (unhide HB')
      go_wp2_with fail
      rw [unhide HPN]
      refine (rGet_any p (place st ln od k).toNat _ h8 (by omega)).mono ?_
      rintro e w2 ⟨rfl, rfl⟩
      rw [← unhide HNN, ← unhide HBQ]
      have hx2 : x2 = false ∨ (x2 = true ∧ (k : Int) + 1 < ln) ∨ (x2 = true ∧ (k : Int) + 1 = ln) := by
        cases x2
        · exact .inl rfl
        · by_cases h : (k : Int) + 1 < ln
          · exact .inr (.inl ⟨rfl, h⟩)
          · exact .inr (.inr ⟨rfl, by omega⟩)
      rcases hx2 with rfl | ⟨rfl, hlt2⟩ | ⟨rfl, hlt2⟩
      · go_wp2
        go_roundw
        case rel =>
          refine ⟨k + 1, by omega, by go_num, fun _ => by rw [unhide HST], fun h => ?_, unhide HB'⟩
          have e : ln.toNat = k + 1 := by omega
          have hkd : ¬ kd = 115 := by have := unhide X2; simpa using this.symm
          rw [unhide HST, unhide HV, if_neg hkd, e]
        case measure => simp [intOf]; omega
      · have hne : ((k : Int) == ln - 1) = false := by rw [beq_eq_false_iff_ne]; omega
        go_wp2
        go_roundw
        case rel => exact ⟨k + 1, by omega, by go_num, fun _ => by rw [unhide HST], fun h => by omega, unhide HB'⟩
        case measure => simp [intOf]; omega
      · have hne : ((k : Int) == ln - 1) = true := by rw [beq_iff_eq]; omega
        have hub := heldTo_lt st ln od N (k + 1)
        have hub2 : (heldTo st ln od N (k + 1) : Int) < 2 * hh := by
          rw [← hpw, show ln.toNat = k + 1 by omega]
          have e : ((2 : Int) ^ (k + 1)) = ((2 ^ (k + 1) : Nat) : Int) := by simp
          rw [e]; omega
        have HTS := hide (top_step (heldTo st ln od N (k + 1)) bq hh hbl hub2 hhp hhu)
        have HL2 := hide hlt2
        clear hlt2 hub hub2
        go_wp2
        go_roundw
        case rel =>
          refine ⟨k + 1, by have := unhide HL2; omega, by go_num, fun h => by have := unhide HL2; omega, fun h => ?_, unhide HB'⟩
          have e : ln.toNat = k + 1 := by omega
          have e2 : ln - 1 = (k : Int) := by omega
          have hkd : kd = 115 := by have := unhide X2; simpa using this.symm
          rw [unhide HST, unhide HTS, unhide HV, if_pos hkd, e, e2, ← unhide HBQ]
        case measure => have := unhide HL2; simp [intOf]; omega
    · have hv := hv2 (by omega)
      subst hv
      clear hv1 hv2
      go_wp2
      go_ret
      exact ⟨rfl, box_below (unhide HB)⟩

end Go.Proofs.Ytoihlnjcgopdlaa

namespace Go.Proofs.Ytoihlnjcgopdlaa
open Go.RowKit

theorem Try.infoInt : (Try.prog.info? 3).map (fun i => (i.zero, i.size, i.bytes)) = some (some (.int .i64 0), 1, 8) := by kernel_rfl

/-- A row of the call's own, read as numbers. -/
theorem IntsAt_own {w : World} {B : Nat} {g cap : Nat} {Z : List Int} (h : w.ownsRow B 3 1 (.slice (some ⟨g, 0, none⟩) Z.length cap) Z.length (Z.map (Value.int .i64))) : IntsAt w (.slice (some ⟨g, 0, none⟩) Z.length cap) Z := by
  rcases h.2 with ⟨h', _⟩ | ⟨g', cap', cur, h', _, hg, hnc, hcm, hcs, ht⟩
  · simp at h'
  · cases h'
    refine ⟨_, _, rfl, hnc, by simp, fun x hx => ?_⟩
    cases hx
    refine ⟨fun _ => blk_lt hg, fun i hi => ?_⟩
    have e : (⟨g, 0, none⟩ : Addr).add i = ⟨g, i, none⟩ := by unfold Addr.add; split <;> simp_all
    rw [e, h.cellAt i (by omega)]
    simp [zAt, hi]

theorem set_take_succ (Z : List Int) (k : Nat) (hk : k < Z.length) (R : List Value) (hR : R = (Z.take k).map (Value.int .i64) ++ List.replicate (Z.length - k) (.int .i64 0)) :
    R.set k (.int .i64 (zAt Z k)) = (Z.take (k + 1)).map (Value.int .i64) ++ List.replicate (Z.length - (k + 1)) (.int .i64 0) := by
  subst hR
  have h1 : ((Z.take k).map (Value.int .i64)).length = k := by simp; omega
  rw [List.set_append_right _ _ (by omega), h1, Nat.sub_self]
  obtain ⟨n, hn⟩ : ∃ n, Z.length - k = n + 1 := ⟨Z.length - k - 1, by omega⟩
  rw [hn, List.replicate_succ, List.set_cons_zero, show Z.length - (k + 1) = n by omega]
  rw [List.take_succ_eq_append_getElem hk, List.map_append, List.append_assoc]
  simp [zAt, hk]

set_option maxRecDepth 100000 in
set_option maxHeartbeats 1000000 in
theorem copied_any (v : Value) (Z : List Int) (w : World) (hz : IntsAt w v Z) (hr : Z.length * 8 ≤ 140737488351232) :
    Calls Try.prog 18 #[v] w fun e w' => ∃ u, e = .returned u ∧ IntsAt w' u Z ∧ Below w.heap.size w w' := by
  obtain ⟨i0, hinf, hz0, hzz1, hzz2⟩ := info_parts Try.infoInt
  have HINF := hide hinf
  have HZ0 := hide hz0
  have HZ1 := hide hzz1
  have HZ2 := hide hzz2
  clear hinf hz0 hzz1
  obtain ⟨za, zcap, rfl, hz1, hz2, hz3⟩ := hz
  have HN := hide hz2
  have HC := hide hz3
  clear hz2 hz3
  go_enter Try.func18, Try.ntmps18
  go_wp2_with (at_make; refine wpList_make_full _ rfl _ _ 29 rfl w.heap.size 3 i0 (.int .i64 0) 1 Try.underlying29 (unhide HINF) (unhide HZ0) (unhide HZ1) .i64 .i64 (Z.length : Int) (Z.length : Int) Z.length rfl rfl rfl rfl (by rw [hzz2]; omega) (by unfold maxLen; omega) (Nat.le_refl _) ?_)
  intro w1 hown hgrow
  have HB1 := hide ((Below.refl w.heap.size w).grown hgrow (Nat.le_refl _) (by simp))
  have HOWN := hide hown
  clear hown hgrow hzz2
  go_wp2
  go_loopw [4] (fun i wr => ∃ k : Nat, k ≤ Z.length ∧ i = .int .i64 k ∧ wr.ownsRow w.heap.size 3 1 (.slice (some ⟨w.heap.size, 0, none⟩) Z.length Z.length) Z.length ((Z.take k).map (Value.int .i64) ++ List.replicate (Z.length - k) (.int .i64 0)) ∧ Below w.heap.size w wr) (fun i _ => Z.length - (intOf i).toNat)
  case atStart =>
    refine ⟨0, by omega, rfl, ?_, unhide HB1⟩
    have := unhide HOWN
    rw [toList_madeCells_one] at this
    simpa using this
  case round =>
    obtain ⟨k, hk, rfl, hown, hb⟩ := hrel
    have HO := hide hown
    have HB := hide hb
    by_cases hlt : k < Z.length
    · cases za with
      | none => have := unhide HN rfl; omega
      | some xa =>
        have hzc := ints_cell (unhide HC xa rfl) hb hlt
        have hoc := hown.cellAt k (by omega)
        have hof := hown.frozenAt k
        have hst := hown.stored k (.int .i64 (zAt Z k))
        rw [set_take_succ Z k hlt _ rfl] at hst
        have HST := hide hst
        obtain ⟨ov, hov⟩ : ∃ ov, wr.cell? ⟨w.heap.size, k, none⟩ = some ov := ⟨_, hoc.trans (List.getElem?_eq_getElem (by simp; omega))⟩
        have hi0 : (0 : Int) ≤ (k : Int) := by omega
        have hi1 : (k : Int) < (Z.length : Int) := by omega
        clear hst hoc hown hb
        go_wp2
        go_roundw
        case rel => exact ⟨k + 1, by omega, by go_num, (unhide HST).1, (unhide HB).setCell (Nat.le_refl _) _⟩
        case measure => simp [intOf]; omega
    · have hkz : k = Z.length := by omega
      have HK := hide hkz
      clear hkz hown hb
      go_wp2
      go_ret
      refine ⟨_, rfl, ?_, unhide HB⟩
      have := unhide HO
      rw [unhide HK, List.take_of_length_le (Nat.le_refl _), Nat.sub_self, List.replicate_zero, List.append_nil] at this
      exact IntsAt_own this

end Go.Proofs.Ytoihlnjcgopdlaa

namespace Go.Proofs.Ytoihlnjcgopdlaa
open Go.RowKit

def held (s : Sg) (N : Nat) : Int := heldV s.st s.ln s.od s.kd N
/-- The multiplexor's value in a payload. -/
def choiceN (L : List Sg) (N : Nat) : Int := if 0 ≤ muxOf L then held (sgAt L (muxOf L).toNat) N else 0
def valN (L : List Sg) (N : Nat) (c : Int) (j : Nat) : Int := if activeB (sgAt L j).rl c then held (sgAt L j) N else 0
def signN (L : List Sg) (c : Int) (j : Nat) : Int := if activeB (sgAt L j).rl c then 43 else 45
def valsL (L : List Sg) (N : Nat) (c : Int) (k : Nat) : List Int := (List.range k).map (valN L N c)
def signsL (L : List Sg) (c : Int) (k : Nat) : List Int := (List.range k).map (signN L c)
theorem valsL_succ (L : List Sg) (N : Nat) (c : Int) (k : Nat) : valsL L N c (k + 1) = valsL L N c k ++ [valN L N c k] := by simp [valsL, List.range_succ]
theorem signsL_succ (L : List Sg) (c : Int) (k : Nat) : signsL L c (k + 1) = signsL L c k ++ [signN L c k] := by simp [signsL, List.range_succ]
theorem valsL_len (L : List Sg) (N : Nat) (c : Int) (k : Nat) : (valsL L N c k).length = k := by simp [valsL]

/-- A row that is the call's own, read as numbers, nil or not. -/
theorem IntsAt_row {w : World} {B : Nat} {v : Value} {Z : List Int} (h : w.ownsRow B 3 1 v Z.length (Z.map (Value.int .i64))) : IntsAt w v Z := by
  rcases h.2 with ⟨rfl, h0⟩ | ⟨g, cap, cur, rfl, _, hg, hnc, hcm, hcs, ht⟩
  · exact ⟨none, 0, by rw [h0], by omega, fun _ => h0, by simp⟩
  · exact IntsAt_own h

theorem ownsRow_grownB {w w' : World} {B e e' s : Nat} {v : Value} {n : Nat} {xs : List Value} {row : Option Nat} (h : w.ownsRow B e s v n xs) (hg : w.grownBy w' row)
    (hrow : ∀ k, row = some k → ∃ cur, w.heap[k]? = some (.cells cur e' (0, 0))) (hne : e ≠ e') : w'.ownsRow B e s v n xs := by
  refine h.kept hg ?_
  cases hv : v.ownBlock with
  | none => exact .inl rfl
  | some k =>
    refine .inr (fun he => ?_)
    obtain ⟨cur, h1⟩ := hrow k he.symm
    obtain ⟨cur', h2⟩ := ownsRow_block h k hv
    rw [h1] at h2
    simp at h2
    exact hne h2.2.symm

set_option maxRecDepth 100000 in
set_option maxHeartbeats 4000000 in
theorem unpackBits_any (v : Value) (L : List Sg) (N : Nat) (w : World) (h : SigsAt w v L) (hg : Good L) (hf : AllFits L) (hN : N < 18446744073709551616) :
    Calls Try.prog 49 #[v, .int .u64 N] w fun e w' => ∃ u, e = .returned (.tuple #[u, .string (strOfNums (signsL L (choiceN L N) L.length))]) ∧ IntsAt w' u (valsL L N (choiceN L N) L.length) ∧ Below w.heap.size w w' := by
  obtain ⟨i0, hinf, hz0, hz1, hz2⟩ := info_parts Try.infoU8
  obtain ⟨j0, jinf, jz0, jz1, jz2⟩ := info_parts Try.infoInt
  have IINF := hide hinf
  have IZ0 := hide hz0
  have IZ1 := hide hz1
  have IZ2 := hide hz2
  have JINF := hide jinf
  have JZ0 := hide jz0
  have JZ1 := hide jz1
  have JZ2 := hide jz2
  clear hinf hz0 hz1 hz2 jinf jz0 jz1 jz2
  have hl := hg.1
  have HG := hide hg
  have HF := hide hf
  have HN := hide hN
  have HSV := hide h
  obtain ⟨va, vcap, rfl⟩ := ownsRow_form h
  clear hg hf hN h
  go_enter Try.func49, Try.ntmps49
  go_wp2_with fail
  refine (multiplexor_any _ L _ (unhide HSV) hl).mono ?_
  rintro e w0 ⟨rfl, rfl⟩
  rcases mux_range L with hmx | ⟨x, hx, hmx, _⟩
  · have HCH := hide (show choiceN L N = 0 by rw [choiceN, hmx]; rfl)
    rw [hmx]
    clear hmx
    have HB0 : Hid (Below w0.heap.size w0 w0) := hide (Below.refl _ _)
    go_wp2
    go_loopw [8, 9, 10, 11, 12] (fun v t i _ _ wr => ∃ k : Nat, k ≤ L.length ∧ i = .int .i64 k ∧ wr.ownsRow w0.heap.size 3 1 v k ((valsL L N 0 k).map (Value.int .i64)) ∧ wr.ownsRow w0.heap.size 5 1 t k ((signsL L 0 k).map (Value.int .u8)) ∧ Below w0.heap.size w0 wr) (fun _ _ i _ _ _ => L.length - (intOf i).toNat)
    case atStart =>
      refine ⟨0, by omega, rfl, ⟨by simp [valsL], .inr ⟨_, 0, #[], rfl, Nat.le_refl _, blk_alloc (blk_new _ _), by simp, by simp [maxLen], by simp, by simp [valsL]⟩⟩, ⟨by simp [signsL], .inr ⟨_, 0, #[], rfl, by omega, new_two _ _ _, by simp, by simp [maxLen], by simp, by simp [signsL]⟩⟩, ((Below.refl _ _).alloc (Nat.le_refl _) _).alloc (by simp) _⟩
    case round =>
      obtain ⟨k, hk, rfl, hr1, hr2, hb⟩ := hrel
      obtain ⟨ta, tcap, rfl⟩ := ownsRow_form hr2
      obtain ⟨ua, ucap, rfl⟩ := ownsRow_form hr1
      have HR10 := hide hr1
      have HR20 := hide hr2
      have HB := hide hb
      clear hr1 hr2 hb
      by_cases hlt : k < L.length
      · rcases (unhide HSV).opened with ⟨hnil, _⟩ | ⟨g2, cap2, hv2, hg2, hcap2, hcm2, hc2⟩
        · rw [hnil] at hlt; simp at hlt
        cases hv2
        have HC2 := hide hc2
        obtain ⟨ok, r0, r1⟩ := (unhide HG).2 k hlt
        have OK := hide ok
        have hi0 : (0 : Int) ≤ (k : Int) := by omega
        have hi1 : (k : Int) < (L.length : Int) := by omega
        have cw := cells7 (unhide HC2) hg2 (unhide HB) hlt
        clear ok hc2
        go_wp2_with fail
        refine (isActive_any _ _ _ _ _ _ (sgAt L k).rl 0 _ r0 r1).mono ?_
        rintro e w3 ⟨rfl, hb3⟩
        have HB3 := hide ((unhide HB).trans (hb3.mono (unhide HB).size))
        have HR13 := hide (ownsRow_bel (unhide HR10) hb3)
        have HR23 := hide (ownsRow_bel (unhide HR20) hb3)
        clear hb3 cw
        cases hac : activeB (sgAt L k).rl 0 with
        | false =>
          have HVAL := hide (show valN L N 0 k = 0 by rw [valN, hac]; rfl)
          have HSGN := hide (show signN L 0 k = 45 by rw [signN, hac]; rfl)
          obtain ⟨w4, rfl⟩ : ∃ w4 : World, w4 = w3 := ⟨_, rfl⟩
          have HR1 := HR13
          have HR2 := HR23
          have HB4 := HB3
          go_wp2_with (at_builtin; refine wpList_append_own _ rfl _ _ 29 rfl w0.heap.size 3 j0 _ 1 8 Try.underlying29 (unhide JINF) (unhide JZ0) (unhide JZ1) (unhide JZ2) rfl (by decide) _ _ _ rfl ((unhide HR1).alloc _) ⟨w4.heap.size, 0, none⟩ 1 1 [.int .i64 0] rfl rfl ?c1 ?c2 ?c3 ?c4 ?c5 ?_)
          case c1 => exact new_cells (blk_new _ _)
          case c2 => simp [Value.oneCell']
          case c3 => unfold maxLen; omega
          case c4 => omega
          case c5 => have := (unhide HB4).size; simp; omega
          intro v5 w5 hown5 hgrow5 _
          obtain ⟨a5, cap5, rfl⟩ := ownsRow_form hown5
          have HB5 := hide (Below.grown ((unhide HB4).alloc (unhide HB4).size _) hgrow5 (by have := (unhide HB4).size; simp; omega) (fun q hq => ((unhide HR1).lt q hq).1))
          have HR25 := hide (ownsRow_grownB (e' := 3) ((unhide HR2).alloc _) hgrow5 (ownsRow_block ((unhide HR1).alloc _)) (by decide))
          have HR15 := hide hown5
          clear hown5 hgrow5
          go_wp2_with (at_builtin; refine wpList_append_own _ rfl _ _ 38 rfl w0.heap.size 5 i0 _ 1 1 Try.underlying38 (unhide IINF) (unhide IZ0) (unhide IZ1) (unhide IZ2) rfl (by decide) _ _ _ rfl ((unhide HR25).alloc _) ⟨w5.heap.size, 0, none⟩ 1 1 [.int .u8 45] rfl rfl ?d1 ?d2 ?d3 ?d4 ?d5 ?_)
          case d1 => exact new_cells (blk_new _ _)
          case d2 => simp [Value.oneCell']
          case d3 => unfold maxLen; omega
          case d4 => omega
          case d5 => have := (unhide HB5).size; simp; omega
          intro v7 w7 hown7 hgrow7 _
          obtain ⟨a7, cap7, rfl⟩ := ownsRow_form hown7
          have HB7 := hide (Below.grown ((unhide HB5).alloc (unhide HB5).size _) hgrow7 (by have := (unhide HB5).size; simp; omega) (fun q hq => ((unhide HR25).lt q hq).1))
          have HR17 := hide (ownsRow_grownB (e' := 5) ((unhide HR15).alloc _) hgrow7 (ownsRow_block ((unhide HR25).alloc _)) (by decide))
          have HR27 := hide hown7
          clear hown7 hgrow7
          go_wp2
          go_roundw
          case rel =>
            refine ⟨k + 1, by omega, by go_num, ?_, ?_, unhide HB7⟩
            · rw [valsL_succ, List.map_append, unhide HVAL]; exact unhide HR17
            · rw [signsL_succ, List.map_append, unhide HSGN]; exact unhide HR27
          case measure => simp [intOf]; omega
        | true =>
          have HVAL := hide (show valN L N 0 k = heldV (sgAt L k).st (sgAt L k).ln (sgAt L k).od (sgAt L k).kd N by rw [valN, hac]; rfl)
          have HSGN := hide (show signN L 0 k = 43 by rw [signN, hac]; rfl)
          have cw := cells7 (unhide HC2) hg2 (unhide HB3) hlt
          go_wp2_with fail
          refine (heldValue_any _ _ (sgAt L k).st (sgAt L k).ln (sgAt L k).od (sgAt L k).kd _ N _ (unhide OK).st0 (unhide OK).st1 (unhide OK).ln0 (unhide OK).ln1 (unhide OK).od (unhide OK).kd (unhide HF k hlt) (unhide HN)).mono ?_
          rintro e w4 ⟨rfl, hb4⟩
          have HB4 := hide ((unhide HB3).trans (hb4.mono (unhide HB3).size))
          have HR1 := hide (ownsRow_bel (unhide HR13) hb4)
          have HR2 := hide (ownsRow_bel (unhide HR23) hb4)
          clear hb4 cw
          go_wp2_with (at_builtin; refine wpList_append_own _ rfl _ _ 29 rfl w0.heap.size 3 j0 _ 1 8 Try.underlying29 (unhide JINF) (unhide JZ0) (unhide JZ1) (unhide JZ2) rfl (by decide) _ _ _ rfl ((unhide HR1).alloc _) ⟨w4.heap.size, 0, none⟩ 1 1 [.int .i64 (heldV (sgAt L k).st (sgAt L k).ln (sgAt L k).od (sgAt L k).kd N)] rfl rfl ?c1 ?c2 ?c3 ?c4 ?c5 ?_)
          case c1 => exact new_cells (blk_new _ _)
          case c2 => simp [Value.oneCell']
          case c3 => unfold maxLen; omega
          case c4 => omega
          case c5 => have := (unhide HB4).size; simp; omega
          intro v5 w5 hown5 hgrow5 _
          obtain ⟨a5, cap5, rfl⟩ := ownsRow_form hown5
          have HB5 := hide (Below.grown ((unhide HB4).alloc (unhide HB4).size _) hgrow5 (by have := (unhide HB4).size; simp; omega) (fun q hq => ((unhide HR1).lt q hq).1))
          have HR25 := hide (ownsRow_grownB (e' := 3) ((unhide HR2).alloc _) hgrow5 (ownsRow_block ((unhide HR1).alloc _)) (by decide))
          have HR15 := hide hown5
          clear hown5 hgrow5
          go_wp2_with (at_builtin; refine wpList_append_own _ rfl _ _ 38 rfl w0.heap.size 5 i0 _ 1 1 Try.underlying38 (unhide IINF) (unhide IZ0) (unhide IZ1) (unhide IZ2) rfl (by decide) _ _ _ rfl ((unhide HR25).alloc _) ⟨w5.heap.size, 0, none⟩ 1 1 [.int .u8 43] rfl rfl ?d1 ?d2 ?d3 ?d4 ?d5 ?_)
          case d1 => exact new_cells (blk_new _ _)
          case d2 => simp [Value.oneCell']
          case d3 => unfold maxLen; omega
          case d4 => omega
          case d5 => have := (unhide HB5).size; simp; omega
          intro v7 w7 hown7 hgrow7 _
          obtain ⟨a7, cap7, rfl⟩ := ownsRow_form hown7
          have HB7 := hide (Below.grown ((unhide HB5).alloc (unhide HB5).size _) hgrow7 (by have := (unhide HB5).size; simp; omega) (fun q hq => ((unhide HR25).lt q hq).1))
          have HR17 := hide (ownsRow_grownB (e' := 5) ((unhide HR15).alloc _) hgrow7 (ownsRow_block ((unhide HR25).alloc _)) (by decide))
          have HR27 := hide hown7
          clear hown7 hgrow7
          go_wp2
          go_roundw
          case rel =>
            refine ⟨k + 1, by omega, by go_num, ?_, ?_, unhide HB7⟩
            · rw [valsL_succ, List.map_append, unhide HVAL]; exact unhide HR17
            · rw [signsL_succ, List.map_append, unhide HSGN]; exact unhide HR27
          case measure => simp [intOf]; omega
      · have hkn : k = L.length := by omega
        have hconv : ∀ wx : World, wx.heap = wr.heap → (convert 38 9 (.slice ta k tcap)).run Try.prog wx = .ok (.string (strOfNums (signsL L 0 k))) wx := fun wx hw => conv_row (w := wx) (B := w0.heap.size) (by
          have := unhide HR20
          refine ⟨this.1, ?_⟩
          rcases this.2 with h | ⟨g, cap, cur, h1, h2, h3, h4⟩
          · exact .inl h
          · exact .inr ⟨g, cap, cur, h1, h2, by rw [hw]; exact h3, h4⟩)
        have HK := hide hkn
        clear hkn
        go_wp2
        refine wp_region_noPanic ?_
        refine wp_region_held_drew (S := fun w' => w'.heap = wr.heap) (by kernel_rfl) rfl (fun hHeld => ?_)
        refine wpAnyH_take (i := 0) (v := ?_) (at_list rfl) (by kernel_rfl) (by kernel_rfl) (by kernel_rfl) (fun _ _ _ h => h) (Or.inl ⟨by rfl, ?_⟩) (by assumption) ?_
        rotate_left
        · intro w hSw; (try dsimp only at hSw); first | (go_simp; done) | (go_simp; with_reducible rfl)
        try simp only [Act.put]
        try simp only [List.setIfInBounds_toArray]
        try simp only [List.set_cons_succ]
        try simp only [List.set_cons_zero]
        refine wpAnyH_take (i := 1) (v := ?_) (at_list rfl) (by kernel_rfl) (by kernel_rfl) (by kernel_rfl) (fun _ _ _ h => h) (Or.inl ⟨by rfl, ?_⟩) (by assumption) ?_
        rotate_left
        · intro w hSw; (try dsimp only at hSw); first | (go_simp; done) | (go_simp; with_reducible rfl)
        try simp only [Act.put]
        try simp only [List.setIfInBounds_toArray]
        try simp only [List.set_cons_succ]
        try simp only [List.set_cons_zero]
        refine wpAnyH_take (i := 2) (v := ?_) (at_list rfl) (by kernel_rfl) (by kernel_rfl) (by kernel_rfl) (fun _ _ _ h => h) (Or.inl ⟨by rfl, ?_⟩) (by assumption) ?_
        rotate_left
        · intro w hSw; (try dsimp only at hSw); first | (go_simp; done) | (go_simp; with_reducible rfl)
        try simp only [Act.put]
        try simp only [List.setIfInBounds_toArray]
        try simp only [List.set_cons_succ]
        try simp only [List.set_cons_zero]
        refine wpAnyH_take (i := 3) (v := ?_) (at_list rfl) (by kernel_rfl) (by kernel_rfl) (by kernel_rfl) (fun _ _ _ h => h) (Or.inl ⟨by rfl, ?_⟩) (by assumption) ?_
        rotate_left
        · intro w hSw; (try dsimp only at hSw); first | (go_simp; done) | (go_simp; with_reducible rfl)
        try simp only [Act.put]
        try simp only [List.setIfInBounds_toArray]
        try simp only [List.set_cons_succ]
        try simp only [List.set_cons_zero]
        refine wpAnyH_take (i := 4) (v := ?_) (at_list rfl) (by kernel_rfl) (by kernel_rfl) (by kernel_rfl) (fun _ _ _ h => h) (Or.inl ⟨by rfl, ?_⟩) (by assumption) ?_
        rotate_left
        · intro w hSw; (try dsimp only at hSw); first | (go_simp; done) | (go_simp; with_reducible rfl)
        try simp only [Act.put]
        try simp only [List.setIfInBounds_toArray]
        try simp only [List.set_cons_succ]
        try simp only [List.set_cons_zero]
        refine wpAnyH_done (by kernel_rfl) ?_ _
        refine NoPanic.normal ?_
        clear hconv
        go_wp2
        go_ret2
        refine ⟨.slice ua k ucap, by rw [unhide HCH, ← unhide HK]; rfl, ?_, (unhide HB).drew⟩
        rw [unhide HCH, ← unhide HK]
        refine IntsAt_row (B := w0.heap.size) ?_
        rw [valsL_len]
        exact (unhide HR10).drew
  · have HCH := hide (show choiceN L N = heldV (sgAt L x).st (sgAt L x).ln (sgAt L x).od (sgAt L x).kd N by rw [choiceN, hmx, if_pos (by omega), Int.toNat_natCast]; rfl)
    rw [hmx]
    rcases (unhide HSV).opened with ⟨hnil, _⟩ | ⟨gx, capx, hvx, hgx, hcapx, hcmx, hcx⟩
    · rw [hnil] at hx; simp at hx
    cases hvx
    have okx := ((unhide HG).2 x hx).1
    have OKX := hide okx
    have hj0 : (0 : Int) ≤ (x : Int) := by omega
    have hj1 : (x : Int) < (L.length : Int) := by omega
    have cwx := cells7 hcx hgx (Below.refl _ _) hx
    clear hmx okx hcx
    go_wp2_with fail
    refine (heldValue_any _ _ (sgAt L x).st (sgAt L x).ln (sgAt L x).od (sgAt L x).kd _ N _ (unhide OKX).st0 (unhide OKX).st1 (unhide OKX).ln0 (unhide OKX).ln1 (unhide OKX).od (unhide OKX).kd (unhide HF x hx) (unhide HN)).mono ?_
    rintro e w2 ⟨rfl, hb2⟩
    obtain ⟨cc, HCCV⟩ : ∃ cc, Hid (cc = heldV (sgAt L x).st (sgAt L x).ln (sgAt L x).od (sgAt L x).kd N) := ⟨_, hide rfl⟩
    rw [← unhide HCCV] at HCH
    rw [← unhide HCCV]
    have HBX0 := hide hb2
    have hszw := hb2.size
    clear hb2 cwx
    go_wp2
    go_loopw [8, 9, 10, 11, 12] (fun v t i _ _ wr => ∃ k : Nat, k ≤ L.length ∧ i = .int .i64 k ∧ wr.ownsRow w0.heap.size 3 1 v k ((valsL L N cc k).map (Value.int .i64)) ∧ wr.ownsRow w0.heap.size 5 1 t k ((signsL L cc k).map (Value.int .u8)) ∧ Below w0.heap.size w0 wr) (fun _ _ i _ _ _ => L.length - (intOf i).toNat)
    case atStart =>
      refine ⟨0, by omega, rfl, ⟨by simp [valsL], .inr ⟨_, 0, #[], rfl, hszw, blk_alloc (blk_new _ _), by simp, by simp [maxLen], by simp, by simp [valsL]⟩⟩, ⟨by simp [signsL], .inr ⟨_, 0, #[], rfl, by omega, new_two _ _ _, by simp, by simp [maxLen], by simp, by simp [signsL]⟩⟩, ((unhide HBX0).alloc hszw _).alloc (by simp; omega) _⟩
    case round =>
      obtain ⟨k, hk, rfl, hr1, hr2, hb⟩ := hrel
      obtain ⟨ta, tcap, rfl⟩ := ownsRow_form hr2
      obtain ⟨ua, ucap, rfl⟩ := ownsRow_form hr1
      have HR10 := hide hr1
      have HR20 := hide hr2
      have HB := hide hb
      clear hr1 hr2 hb
      by_cases hlt : k < L.length
      · rcases (unhide HSV).opened with ⟨hnil, _⟩ | ⟨g2, cap2, hv2, hg2, hcap2, hcm2, hc2⟩
        · rw [hnil] at hlt; simp at hlt
        cases hv2
        have HC2 := hide hc2
        obtain ⟨ok, r0, r1⟩ := (unhide HG).2 k hlt
        have OK := hide ok
        have hi0 : (0 : Int) ≤ (k : Int) := by omega
        have hi1 : (k : Int) < (L.length : Int) := by omega
        have cw := cells7 (unhide HC2) hg2 (unhide HB) hlt
        clear ok hc2
        go_wp2_with fail
        refine (isActive_any _ _ _ _ _ _ (sgAt L k).rl cc _ r0 r1).mono ?_
        rintro e w3 ⟨rfl, hb3⟩
        have HB3 := hide ((unhide HB).trans (hb3.mono (unhide HB).size))
        have HR13 := hide (ownsRow_bel (unhide HR10) hb3)
        have HR23 := hide (ownsRow_bel (unhide HR20) hb3)
        clear hb3 cw
        cases hac : activeB (sgAt L k).rl cc with
        | false =>
          have HVAL := hide (show valN L N cc k = 0 by rw [valN, hac]; rfl)
          have HSGN := hide (show signN L cc k = 45 by rw [signN, hac]; rfl)
          obtain ⟨w4, rfl⟩ : ∃ w4 : World, w4 = w3 := ⟨_, rfl⟩
          have HR1 := HR13
          have HR2 := HR23
          have HB4 := HB3
          go_wp2_with (at_builtin; refine wpList_append_own _ rfl _ _ 29 rfl w0.heap.size 3 j0 _ 1 8 Try.underlying29 (unhide JINF) (unhide JZ0) (unhide JZ1) (unhide JZ2) rfl (by decide) _ _ _ rfl ((unhide HR1).alloc _) ⟨w4.heap.size, 0, none⟩ 1 1 [.int .i64 0] rfl rfl ?c1 ?c2 ?c3 ?c4 ?c5 ?_)
          case c1 => exact new_cells (blk_new _ _)
          case c2 => simp [Value.oneCell']
          case c3 => unfold maxLen; omega
          case c4 => omega
          case c5 => have := (unhide HB4).size; simp; omega
          intro v5 w5 hown5 hgrow5 _
          obtain ⟨a5, cap5, rfl⟩ := ownsRow_form hown5
          have HB5 := hide (Below.grown ((unhide HB4).alloc (unhide HB4).size _) hgrow5 (by have := (unhide HB4).size; simp; omega) (fun q hq => ((unhide HR1).lt q hq).1))
          have HR25 := hide (ownsRow_grownB (e' := 3) ((unhide HR2).alloc _) hgrow5 (ownsRow_block ((unhide HR1).alloc _)) (by decide))
          have HR15 := hide hown5
          clear hown5 hgrow5
          go_wp2_with (at_builtin; refine wpList_append_own _ rfl _ _ 38 rfl w0.heap.size 5 i0 _ 1 1 Try.underlying38 (unhide IINF) (unhide IZ0) (unhide IZ1) (unhide IZ2) rfl (by decide) _ _ _ rfl ((unhide HR25).alloc _) ⟨w5.heap.size, 0, none⟩ 1 1 [.int .u8 45] rfl rfl ?d1 ?d2 ?d3 ?d4 ?d5 ?_)
          case d1 => exact new_cells (blk_new _ _)
          case d2 => simp [Value.oneCell']
          case d3 => unfold maxLen; omega
          case d4 => omega
          case d5 => have := (unhide HB5).size; simp; omega
          intro v7 w7 hown7 hgrow7 _
          obtain ⟨a7, cap7, rfl⟩ := ownsRow_form hown7
          have HB7 := hide (Below.grown ((unhide HB5).alloc (unhide HB5).size _) hgrow7 (by have := (unhide HB5).size; simp; omega) (fun q hq => ((unhide HR25).lt q hq).1))
          have HR17 := hide (ownsRow_grownB (e' := 5) ((unhide HR15).alloc _) hgrow7 (ownsRow_block ((unhide HR25).alloc _)) (by decide))
          have HR27 := hide hown7
          clear hown7 hgrow7
          go_wp2
          go_roundw
          case rel =>
            refine ⟨k + 1, by omega, by go_num, ?_, ?_, unhide HB7⟩
            · rw [valsL_succ, List.map_append, unhide HVAL]; exact unhide HR17
            · rw [signsL_succ, List.map_append, unhide HSGN]; exact unhide HR27
          case measure => simp [intOf]; omega
        | true =>
          have HVAL := hide (show valN L N cc k = heldV (sgAt L k).st (sgAt L k).ln (sgAt L k).od (sgAt L k).kd N by rw [valN, hac]; rfl)
          have HSGN := hide (show signN L cc k = 43 by rw [signN, hac]; rfl)
          have cw := cells7 (unhide HC2) hg2 (unhide HB3) hlt
          go_wp2_with fail
          refine (heldValue_any _ _ (sgAt L k).st (sgAt L k).ln (sgAt L k).od (sgAt L k).kd _ N _ (unhide OK).st0 (unhide OK).st1 (unhide OK).ln0 (unhide OK).ln1 (unhide OK).od (unhide OK).kd (unhide HF k hlt) (unhide HN)).mono ?_
          rintro e w4 ⟨rfl, hb4⟩
          have HB4 := hide ((unhide HB3).trans (hb4.mono (unhide HB3).size))
          have HR1 := hide (ownsRow_bel (unhide HR13) hb4)
          have HR2 := hide (ownsRow_bel (unhide HR23) hb4)
          clear hb4 cw
          go_wp2_with (at_builtin; refine wpList_append_own _ rfl _ _ 29 rfl w0.heap.size 3 j0 _ 1 8 Try.underlying29 (unhide JINF) (unhide JZ0) (unhide JZ1) (unhide JZ2) rfl (by decide) _ _ _ rfl ((unhide HR1).alloc _) ⟨w4.heap.size, 0, none⟩ 1 1 [.int .i64 (heldV (sgAt L k).st (sgAt L k).ln (sgAt L k).od (sgAt L k).kd N)] rfl rfl ?c1 ?c2 ?c3 ?c4 ?c5 ?_)
          case c1 => exact new_cells (blk_new _ _)
          case c2 => simp [Value.oneCell']
          case c3 => unfold maxLen; omega
          case c4 => omega
          case c5 => have := (unhide HB4).size; simp; omega
          intro v5 w5 hown5 hgrow5 _
          obtain ⟨a5, cap5, rfl⟩ := ownsRow_form hown5
          have HB5 := hide (Below.grown ((unhide HB4).alloc (unhide HB4).size _) hgrow5 (by have := (unhide HB4).size; simp; omega) (fun q hq => ((unhide HR1).lt q hq).1))
          have HR25 := hide (ownsRow_grownB (e' := 3) ((unhide HR2).alloc _) hgrow5 (ownsRow_block ((unhide HR1).alloc _)) (by decide))
          have HR15 := hide hown5
          clear hown5 hgrow5
          go_wp2_with (at_builtin; refine wpList_append_own _ rfl _ _ 38 rfl w0.heap.size 5 i0 _ 1 1 Try.underlying38 (unhide IINF) (unhide IZ0) (unhide IZ1) (unhide IZ2) rfl (by decide) _ _ _ rfl ((unhide HR25).alloc _) ⟨w5.heap.size, 0, none⟩ 1 1 [.int .u8 43] rfl rfl ?d1 ?d2 ?d3 ?d4 ?d5 ?_)
          case d1 => exact new_cells (blk_new _ _)
          case d2 => simp [Value.oneCell']
          case d3 => unfold maxLen; omega
          case d4 => omega
          case d5 => have := (unhide HB5).size; simp; omega
          intro v7 w7 hown7 hgrow7 _
          obtain ⟨a7, cap7, rfl⟩ := ownsRow_form hown7
          have HB7 := hide (Below.grown ((unhide HB5).alloc (unhide HB5).size _) hgrow7 (by have := (unhide HB5).size; simp; omega) (fun q hq => ((unhide HR25).lt q hq).1))
          have HR17 := hide (ownsRow_grownB (e' := 5) ((unhide HR15).alloc _) hgrow7 (ownsRow_block ((unhide HR25).alloc _)) (by decide))
          have HR27 := hide hown7
          clear hown7 hgrow7
          go_wp2
          go_roundw
          case rel =>
            refine ⟨k + 1, by omega, by go_num, ?_, ?_, unhide HB7⟩
            · rw [valsL_succ, List.map_append, unhide HVAL]; exact unhide HR17
            · rw [signsL_succ, List.map_append, unhide HSGN]; exact unhide HR27
          case measure => simp [intOf]; omega
      · have hkn : k = L.length := by omega
        have hconv : ∀ wx : World, wx.heap = wr.heap → (convert 38 9 (.slice ta k tcap)).run Try.prog wx = .ok (.string (strOfNums (signsL L cc k))) wx := fun wx hw => conv_row (w := wx) (B := w0.heap.size) (by
          have := unhide HR20
          refine ⟨this.1, ?_⟩
          rcases this.2 with h | ⟨g, cap, cur, h1, h2, h3, h4⟩
          · exact .inl h
          · exact .inr ⟨g, cap, cur, h1, h2, by rw [hw]; exact h3, h4⟩)
        have HK := hide hkn
        clear hkn
        go_wp2
        refine wp_region_noPanic ?_
        refine wp_region_held_drew (S := fun w' => w'.heap = wr.heap) (by kernel_rfl) rfl (fun hHeld => ?_)
        refine wpAnyH_take (i := 0) (v := ?_) (at_list rfl) (by kernel_rfl) (by kernel_rfl) (by kernel_rfl) (fun _ _ _ h => h) (Or.inl ⟨by rfl, ?_⟩) (by assumption) ?_
        rotate_left
        · intro w hSw; (try dsimp only at hSw); first | (go_simp; done) | (go_simp; with_reducible rfl)
        try simp only [Act.put]
        try simp only [List.setIfInBounds_toArray]
        try simp only [List.set_cons_succ]
        try simp only [List.set_cons_zero]
        refine wpAnyH_take (i := 1) (v := ?_) (at_list rfl) (by kernel_rfl) (by kernel_rfl) (by kernel_rfl) (fun _ _ _ h => h) (Or.inl ⟨by rfl, ?_⟩) (by assumption) ?_
        rotate_left
        · intro w hSw; (try dsimp only at hSw); first | (go_simp; done) | (go_simp; with_reducible rfl)
        try simp only [Act.put]
        try simp only [List.setIfInBounds_toArray]
        try simp only [List.set_cons_succ]
        try simp only [List.set_cons_zero]
        refine wpAnyH_take (i := 2) (v := ?_) (at_list rfl) (by kernel_rfl) (by kernel_rfl) (by kernel_rfl) (fun _ _ _ h => h) (Or.inl ⟨by rfl, ?_⟩) (by assumption) ?_
        rotate_left
        · intro w hSw; (try dsimp only at hSw); first | (go_simp; done) | (go_simp; with_reducible rfl)
        try simp only [Act.put]
        try simp only [List.setIfInBounds_toArray]
        try simp only [List.set_cons_succ]
        try simp only [List.set_cons_zero]
        refine wpAnyH_take (i := 3) (v := ?_) (at_list rfl) (by kernel_rfl) (by kernel_rfl) (by kernel_rfl) (fun _ _ _ h => h) (Or.inl ⟨by rfl, ?_⟩) (by assumption) ?_
        rotate_left
        · intro w hSw; (try dsimp only at hSw); first | (go_simp; done) | (go_simp; with_reducible rfl)
        try simp only [Act.put]
        try simp only [List.setIfInBounds_toArray]
        try simp only [List.set_cons_succ]
        try simp only [List.set_cons_zero]
        refine wpAnyH_take (i := 4) (v := ?_) (at_list rfl) (by kernel_rfl) (by kernel_rfl) (by kernel_rfl) (fun _ _ _ h => h) (Or.inl ⟨by rfl, ?_⟩) (by assumption) ?_
        rotate_left
        · intro w hSw; (try dsimp only at hSw); first | (go_simp; done) | (go_simp; with_reducible rfl)
        try simp only [Act.put]
        try simp only [List.setIfInBounds_toArray]
        try simp only [List.set_cons_succ]
        try simp only [List.set_cons_zero]
        refine wpAnyH_done (by kernel_rfl) ?_ _
        refine NoPanic.normal ?_
        clear hconv
        go_wp2
        go_ret2
        refine ⟨.slice ua k ucap, by rw [unhide HCH, ← unhide HK]; rfl, ?_, (unhide HB).drew⟩
        rw [unhide HCH, ← unhide HK]
        refine IntsAt_row (B := w0.heap.size) ?_
        rw [valsL_len]
        exact (unhide HR10).drew

end Go.Proofs.Ytoihlnjcgopdlaa

namespace Go.Proofs.Ytoihlnjcgopdlaa
open Go.RowKit

theorem str_push (xs : List Int) (c : Int) : strOfNums (xs ++ [c]) = strOfNums xs ++ ⟨#[UInt8.ofNat c.toNat]⟩ := by
  apply ByteArray.ext
  simp [strOfNums]

theorem vals_stay (L : List Sg) (N : Nat) (c : Int) (k : Nat) (hk : k < L.length) (h : valN L N c k = 0) :
    (valsL L N c (k + 1)).map (Value.int .i64) ++ List.replicate (L.length - (k + 1)) (.int .i64 0) = (valsL L N c k).map (Value.int .i64) ++ List.replicate (L.length - k) (.int .i64 0) := by
  obtain ⟨n, hn⟩ : ∃ n, L.length - k = n + 1 := ⟨L.length - k - 1, by omega⟩
  rw [hn, show L.length - (k + 1) = n by omega, valsL_succ, h, List.replicate_succ]
  simp
theorem vals_set (L : List Sg) (N : Nat) (c : Int) (k : Nat) (hk : k < L.length) :
    ((valsL L N c k).map (Value.int .i64) ++ List.replicate (L.length - k) (Value.int .i64 0)).set k (Value.int .i64 (valN L N c k)) = (valsL L N c (k + 1)).map (Value.int .i64) ++ List.replicate (L.length - (k + 1)) (Value.int .i64 0) := by
  have h1 : ((valsL L N c k).map (Value.int .i64)).length = k := by simp [valsL]
  obtain ⟨n, hn⟩ : ∃ n, L.length - k = n + 1 := ⟨L.length - k - 1, by omega⟩
  rw [List.set_append_right _ _ (by omega), h1, Nat.sub_self, hn, show L.length - (k + 1) = n by omega, valsL_succ, List.replicate_succ, List.set_cons_zero]
  simp

theorem ownsRow_to {w : World} {B B' e s : Nat} {v : Value} {n : Nat} {xs : List Value} (h : w.ownsRow B e s v n xs) (hb : B' ≤ B) : w.ownsRow B' e s v n xs := by
  refine ⟨h.1, ?_⟩
  rcases h.2 with hn | ⟨g, cap, cur, hv, hg, r⟩
  · exact .inl hn
  · exact .inr ⟨g, cap, cur, hv, Nat.le_trans hb hg, r⟩

set_option maxRecDepth 100000 in
set_option maxHeartbeats 4000000 in
theorem rUnpackedO_any (id p : ByteArray) (sz pl : Int) (v : Value) (L : List Sg) (w : World) (h : RSigsAt w v L) (hg : Good L) (h8 : p.size ≤ 8) (hwi : Within L p.size) :
    Calls Try.prog 50 #[.agg #[.string id, .int .i64 sz, v, .int .i64 pl], .string p] w fun e w' => ∃ u, e = .returned (.tuple #[u, .string (strOfNums (signsL L (choiceN L (payTo p p.size)) L.length))]) ∧ w'.ownsRow w.heap.size 3 1 u L.length ((valsL L (payTo p p.size) (choiceN L (payTo p p.size)) L.length).map (Value.int .i64)) ∧ Below w.heap.size w w' := by
  obtain ⟨j0, jinf, jz0, jz1, jz2⟩ := info_parts Try.infoInt
  have JINF := hide jinf
  have JZ0 := hide jz0
  have JZ1 := hide jz1
  have JZ2 := hide jz2
  clear jinf jz0 jz1 jz2
  have hl := hg.1
  have HG := hide hg
  have HWI := hide hwi
  have HSV := hide h
  obtain ⟨va, vcap, rfl⟩ := ownsRow_form h
  obtain ⟨N, HNN⟩ : ∃ N, Hid (N = payTo p p.size) := ⟨_, hide rfl⟩
  rw [← unhide HNN]
  clear hg hwi h
  have hbox := fun (wx : World) (h : Below (w.heap.size + 1) (w.alloc (.cells #[.string id, .int .i64 sz, .slice va L.length vcap, .int .i64 pl] 45)) wx) => box_cell h
  go_enter Try.func50, Try.ntmps50
  go_wp2_with fail
  refine (rMux_any id sz pl _ L _ (ownsRow_below (unhide HSV) ((Below.refl _ _).alloc (Nat.le_refl _) _)) hl).mono ?_
  rintro e w1 ⟨rfl, hb1⟩
  have HB1 : Hid (Below (w.heap.size + 1) (w.alloc (.cells #[.string id, .int .i64 sz, .slice va L.length vcap, .int .i64 pl] 45)) w1) := hide (hb1.mono (by simp))
  have hbw1 := hbox _ (unhide HB1)
  clear hb1
  rcases mux_range L with hmx | ⟨x, hx, hmx, _⟩
  · have HCH := hide (show choiceN L N = 0 by rw [choiceN, hmx]; rfl)
    rw [hmx]
    clear hmx
    go_wp2_with (at_make; refine wpList_make_full _ rfl _ _ 29 rfl (w.heap.size + 1) 3 j0 (.int .i64 0) 1 Try.underlying29 (unhide JINF) (unhide JZ0) (unhide JZ1) .i64 .i64 (L.length : Int) (L.length : Int) L.length rfl rfl rfl rfl (by rw [unhide JZ2]; omega) (by unfold maxLen; omega) (by have := (unhide HB1).size; simp at this; omega) ?_)
    intro w2 hown hgrow
    have HB2 := hide (Below.grown (unhide HB1) hgrow (by have := (unhide HB1).size; simp at this; omega) (by simp))
    obtain ⟨wo, HWO⟩ : ∃ wo : World, Hid (wo = w1) := ⟨_, hide rfl⟩
    rw [← unhide HWO] at hown
    rw [← unhide HWO]
    have HROW : Hid (w2.ownsRow (w.heap.size + 1) 3 1 (.slice (some ⟨wo.heap.size, 0, none⟩) L.length L.length) L.length ((valsL L N 0 0).map (Value.int .i64) ++ List.replicate (L.length - 0) (.int .i64 0))) := hide (by rw [toList_madeCells_one] at hown; simpa [valsL] using hown)
    clear hown hgrow
    have hbw := hbox _ (unhide HB2)
    go_wp2
    clear hbw
    go_loopw [9, 10, 11] (fun t i _ wr => ∃ k : Nat, k ≤ L.length ∧ i = .int .i64 k ∧ t = .string (strOfNums (signsL L 0 k)) ∧ wr.ownsRow (w.heap.size + 1) 3 1 (.slice (some ⟨wo.heap.size, 0, none⟩) L.length L.length) L.length ((valsL L N 0 k).map (Value.int .i64) ++ List.replicate (L.length - k) (.int .i64 0)) ∧ Below (w.heap.size + 1) (w.alloc (.cells #[.string id, .int .i64 sz, .slice va L.length vcap, .int .i64 pl] 45)) wr) (fun _ i _ _ => L.length - (intOf i).toNat)
    case atStart => exact ⟨0, by omega, rfl, rfl, unhide HROW, unhide HB2⟩
    case round =>
      obtain ⟨k, hk, rfl, rfl, hrow, hb⟩ := hrel
      have HR := hide hrow
      have HB := hide hb
      have hbw := hbox _ hb
      clear hrow hb
      by_cases hlt : k < L.length
      · obtain ⟨ok, r0, r1⟩ := (unhide HG).2 k hlt
        have OK := hide ok
        have hi0 : (0 : Int) ≤ (k : Int) := by omega
        have hi1 : (k : Int) < (L.length : Int) := by omega
        have hsz : (strOfNums (signsL L 0 k)).size ≤ 8 := by rw [strOfNums_size]; simp [signsL]; omega
        clear ok
        go_wp2_with fail
        refine (rActive_any id sz pl _ L k 0 _ (ownsRow_below (unhide HSV) (box_below (unhide HB))) hl hlt r0 r1).mono ?_
        rintro e w3 ⟨rfl, hb3⟩
        have HB3 := hide (box_next (unhide HB) hb3)
        have HR3 := hide (ownsRow_bel (unhide HR) hb3)
        clear hb3 hbw
        cases hac : activeB (sgAt L k).rl 0 with
        | false =>
          have HVAL := hide (show valN L N 0 k = 0 by rw [valN, hac]; rfl)
          have HSGN := hide (show signN L 0 k = 45 by rw [signN, hac]; rfl)
          go_wp2
          go_roundw
          case rel =>
            refine ⟨k + 1, by omega, by go_num, ?_, ?_, unhide HB3⟩
            · rw [signsL_succ, unhide HSGN, str_push]; rfl
            · rw [vals_stay L N 0 k hlt (unhide HVAL)]; exact unhide HR3
          case measure => simp [intOf]; omega
        | true =>
          have HVAL := hide (show valN L N 0 k = heldV (sgAt L k).st (sgAt L k).ln (sgAt L k).od (sgAt L k).kd N by rw [valN, hac]; rfl)
          have HSGN := hide (show signN L 0 k = 43 by rw [signN, hac]; rfl)
          rcases (unhide HSV).opened with ⟨hnil, _⟩ | ⟨g2, cap2, hv2, hg2, hcap2, hcm2, hc2⟩
          · rw [hnil] at hlt; simp at hlt
          cases hv2
          have cw := rcells7 hc2 hg2 (box_below (unhide HB3)) hlt
          have hbw := hbox _ (unhide HB3)
          clear hc2
          go_wp2_with fail
          refine (rHolds_any _ (sgAt L k).st (sgAt L k).ln (sgAt L k).od (sgAt L k).kd _ _ p _ (unhide OK).st0 (unhide OK).st1 (unhide OK).ln0 (unhide OK).ln1 (unhide OK).od h8 (fun i hi => unhide HWI k hlt i hi)).mono ?_
          rintro e w4 ⟨rfl, hb4⟩
          have HB4 := hide (box_next (unhide HB3) hb4)
          have HR4 := hide (ownsRow_bel (unhide HR3) hb4)
          clear hb4 cw hbw
          rw [← unhide HNN]
          have hoc := (unhide HR4).cellAt k (by omega)
          have hof := (unhide HR4).frozenAt k
          have hst := (unhide HR4).stored k (.int .i64 (valN L N 0 k))
          rw [vals_set L N 0 k hlt] at hst
          have HST := hide hst
          have hgeb := ((unhide HR4).lt _ rfl).1
          obtain ⟨ov, hov⟩ : ∃ ov, w4.cell? ⟨wo.heap.size, k, none⟩ = some ov := ⟨_, hoc.trans (List.getElem?_eq_getElem (by simp [valsL]; omega))⟩
          rw [← unhide HVAL]
          clear hst hoc
          go_wp2
          go_roundw
          case rel =>
            refine ⟨k + 1, by omega, by go_num, ?_, (unhide HST).1, (unhide HB4).setCell hgeb _⟩
            rw [signsL_succ, unhide HSGN, str_push]; rfl
          case measure => simp [intOf]; omega
      · have hkn : k = L.length := by omega
        have HK := hide hkn
        clear hkn
        go_wp2
        go_ret2
        refine ⟨.slice (some ⟨wo.heap.size, 0, none⟩) L.length L.length, by rw [unhide HCH, ← unhide HK]; rfl, ?_, box_below (unhide HB)⟩
        rw [unhide HCH]
        have h9 := unhide HR
        rw [unhide HK, Nat.sub_self, List.replicate_zero, List.append_nil] at h9
        exact ownsRow_to h9 (by omega)
  · have HCH := hide (show choiceN L N = heldV (sgAt L x).st (sgAt L x).ln (sgAt L x).od (sgAt L x).kd N by rw [choiceN, hmx, if_pos (by omega), Int.toNat_natCast]; rfl)
    rw [hmx]
    rcases (unhide HSV).opened with ⟨hnil, _⟩ | ⟨gx, capx, hvx, hgx, hcapx, hcmx, hcx⟩
    · rw [hnil] at hx; simp at hx
    cases hvx
    have okx := ((unhide HG).2 x hx).1
    have OKX := hide okx
    have hj0 : (0 : Int) ≤ (x : Int) := by omega
    have hj1 : (x : Int) < (L.length : Int) := by omega
    have cwx := rcells7 hcx hgx (box_below (unhide HB1)) hx
    clear hmx okx hcx
    go_wp2_with fail
    refine (rHolds_any _ (sgAt L x).st (sgAt L x).ln (sgAt L x).od (sgAt L x).kd _ _ p _ (unhide OKX).st0 (unhide OKX).st1 (unhide OKX).ln0 (unhide OKX).ln1 (unhide OKX).od h8 (fun i hi => unhide HWI x hx i hi)).mono ?_
    rintro e w1b ⟨rfl, hb1b⟩
    rw [← unhide HNN]
    obtain ⟨cc, HCCV⟩ : ∃ cc, Hid (cc = heldV (sgAt L x).st (sgAt L x).ln (sgAt L x).od (sgAt L x).kd N) := ⟨_, hide rfl⟩
    rw [← unhide HCCV] at HCH
    rw [← unhide HCCV]
    have HB1o := HB1
    clear HB1
    have HB1 := hide (box_next (unhide HB1o) hb1b)
    clear hb1b cwx hbw1
    have hbw1 := hbox _ (unhide HB1)
    go_wp2_with (at_make; refine wpList_make_full _ rfl _ _ 29 rfl (w.heap.size + 1) 3 j0 (.int .i64 0) 1 Try.underlying29 (unhide JINF) (unhide JZ0) (unhide JZ1) .i64 .i64 (L.length : Int) (L.length : Int) L.length rfl rfl rfl rfl (by rw [unhide JZ2]; omega) (by unfold maxLen; omega) (by have := (unhide HB1).size; simp at this; omega) ?_)
    intro w2 hown hgrow
    have HB2 := hide (Below.grown (unhide HB1) hgrow (by have := (unhide HB1).size; simp at this; omega) (by simp))
    obtain ⟨wo, HWO⟩ : ∃ wo : World, Hid (wo = w1b) := ⟨_, hide rfl⟩
    rw [← unhide HWO] at hown
    rw [← unhide HWO]
    have HROW : Hid (w2.ownsRow (w.heap.size + 1) 3 1 (.slice (some ⟨wo.heap.size, 0, none⟩) L.length L.length) L.length ((valsL L N cc 0).map (Value.int .i64) ++ List.replicate (L.length - 0) (.int .i64 0))) := hide (by rw [toList_madeCells_one] at hown; simpa [valsL] using hown)
    clear hown hgrow
    have hbw := hbox _ (unhide HB2)
    go_wp2
    clear hbw
    go_loopw [9, 10, 11] (fun t i _ wr => ∃ k : Nat, k ≤ L.length ∧ i = .int .i64 k ∧ t = .string (strOfNums (signsL L cc k)) ∧ wr.ownsRow (w.heap.size + 1) 3 1 (.slice (some ⟨wo.heap.size, 0, none⟩) L.length L.length) L.length ((valsL L N cc k).map (Value.int .i64) ++ List.replicate (L.length - k) (.int .i64 0)) ∧ Below (w.heap.size + 1) (w.alloc (.cells #[.string id, .int .i64 sz, .slice (some ⟨gx, 0, none⟩) L.length vcap, .int .i64 pl] 45)) wr) (fun _ i _ _ => L.length - (intOf i).toNat)
    case atStart => exact ⟨0, by omega, rfl, rfl, unhide HROW, unhide HB2⟩
    case round =>
      obtain ⟨k, hk, rfl, rfl, hrow, hb⟩ := hrel
      have HR := hide hrow
      have HB := hide hb
      have hbw := hbox _ hb
      clear hrow hb
      by_cases hlt : k < L.length
      · obtain ⟨ok, r0, r1⟩ := (unhide HG).2 k hlt
        have OK := hide ok
        have hi0 : (0 : Int) ≤ (k : Int) := by omega
        have hi1 : (k : Int) < (L.length : Int) := by omega
        have hsz : (strOfNums (signsL L cc k)).size ≤ 8 := by rw [strOfNums_size]; simp [signsL]; omega
        clear ok
        go_wp2_with fail
        refine (rActive_any id sz pl _ L k cc _ (ownsRow_below (unhide HSV) (box_below (unhide HB))) hl hlt r0 r1).mono ?_
        rintro e w3 ⟨rfl, hb3⟩
        have HB3 := hide (box_next (unhide HB) hb3)
        have HR3 := hide (ownsRow_bel (unhide HR) hb3)
        clear hb3 hbw
        cases hac : activeB (sgAt L k).rl cc with
        | false =>
          have HVAL := hide (show valN L N cc k = 0 by rw [valN, hac]; rfl)
          have HSGN := hide (show signN L cc k = 45 by rw [signN, hac]; rfl)
          go_wp2
          go_roundw
          case rel =>
            refine ⟨k + 1, by omega, by go_num, ?_, ?_, unhide HB3⟩
            · rw [signsL_succ, unhide HSGN, str_push]; rfl
            · rw [vals_stay L N cc k hlt (unhide HVAL)]; exact unhide HR3
          case measure => simp [intOf]; omega
        | true =>
          have HVAL := hide (show valN L N cc k = heldV (sgAt L k).st (sgAt L k).ln (sgAt L k).od (sgAt L k).kd N by rw [valN, hac]; rfl)
          have HSGN := hide (show signN L cc k = 43 by rw [signN, hac]; rfl)
          rcases (unhide HSV).opened with ⟨hnil, _⟩ | ⟨g2, cap2, hv2, hg2, hcap2, hcm2, hc2⟩
          · rw [hnil] at hlt; simp at hlt
          cases hv2
          have cw := rcells7 hc2 hg2 (box_below (unhide HB3)) hlt
          have hbw := hbox _ (unhide HB3)
          clear hc2
          go_wp2_with fail
          refine (rHolds_any _ (sgAt L k).st (sgAt L k).ln (sgAt L k).od (sgAt L k).kd _ _ p _ (unhide OK).st0 (unhide OK).st1 (unhide OK).ln0 (unhide OK).ln1 (unhide OK).od h8 (fun i hi => unhide HWI k hlt i hi)).mono ?_
          rintro e w4 ⟨rfl, hb4⟩
          have HB4 := hide (box_next (unhide HB3) hb4)
          have HR4 := hide (ownsRow_bel (unhide HR3) hb4)
          clear hb4 cw hbw
          rw [← unhide HNN]
          have hoc := (unhide HR4).cellAt k (by omega)
          have hof := (unhide HR4).frozenAt k
          have hst := (unhide HR4).stored k (.int .i64 (valN L N cc k))
          rw [vals_set L N cc k hlt] at hst
          have HST := hide hst
          have hgeb := ((unhide HR4).lt _ rfl).1
          obtain ⟨ov, hov⟩ : ∃ ov, w4.cell? ⟨wo.heap.size, k, none⟩ = some ov := ⟨_, hoc.trans (List.getElem?_eq_getElem (by simp [valsL]; omega))⟩
          rw [← unhide HVAL]
          clear hst hoc
          go_wp2
          go_roundw
          case rel =>
            refine ⟨k + 1, by omega, by go_num, ?_, (unhide HST).1, (unhide HB4).setCell hgeb _⟩
            rw [signsL_succ, unhide HSGN, str_push]; rfl
          case measure => simp [intOf]; omega
      · have hkn : k = L.length := by omega
        have HK := hide hkn
        clear hkn
        go_wp2
        go_ret2
        refine ⟨.slice (some ⟨wo.heap.size, 0, none⟩) L.length L.length, by rw [unhide HCH, ← unhide HK]; rfl, ?_, box_below (unhide HB)⟩
        rw [unhide HCH]
        have h9 := unhide HR
        rw [unhide HK, Nat.sub_self, List.replicate_zero, List.append_nil] at h9
        exact ownsRow_to h9 (by omega)

theorem rUnpacked_any (id p : ByteArray) (sz pl : Int) (v : Value) (L : List Sg) (w : World) (h : RSigsAt w v L) (hg : Good L) (h8 : p.size ≤ 8) (hwi : Within L p.size) :
    Calls Try.prog 50 #[.agg #[.string id, .int .i64 sz, v, .int .i64 pl], .string p] w fun e w' => ∃ u, e = .returned (.tuple #[u, .string (strOfNums (signsL L (choiceN L (payTo p p.size)) L.length))]) ∧ IntsAt w' u (valsL L (payTo p p.size) (choiceN L (payTo p p.size)) L.length) ∧ Below w.heap.size w w' := by
  refine (rUnpackedO_any id p sz pl v L w h hg h8 hwi).mono ?_
  rintro e w' ⟨u, rfl, ho, hb⟩
  exact ⟨u, rfl, IntsAt_row (B := w.heap.size) (by rw [valsL_len]; exact ho), hb⟩

end Go.Proofs.Ytoihlnjcgopdlaa

namespace Go.Proofs.Ytoihlnjcgopdlaa
open Go.RowKit

/-- What the document's Find answers in a text that is a database. -/
def RFOut (M : List Mg) (id : ByteArray) (e : Ending) (w' : World) : Prop :=
  (msgIx M id = -1 ∧ e = .returned (.tuple #[.agg #[.string { data := #[] }, .int .i64 0, .slice none 0 0, .int .i64 0], .bool false])) ∨
    ∃ (k : Nat) (sv : Value), k < M.length ∧ msgIx M id = k ∧ e = .returned (.tuple #[.agg #[.string (mAt M k).id, .int .i64 (mAt M k).sz, sv, .int .i64 (mAt M k).pl], .bool true]) ∧ RSigsAt w' sv (mAt M k).sigs

set_option maxRecDepth 100000 in
set_option maxHeartbeats 1000000 in
theorem rFind_any (s id : ByteArray) (M : List Mg) (w : World) (hs : s.size ≤ 140737488351232) (hpd : pDb s 4 0 = .inr M) :
    Calls Try.prog 24 #[.string s, .string id] w fun e w' => RFOut M id e w' ∧ Below w.heap.size w w' := by
  have HPD := hide hpd
  clear hpd
  go_enter Try.func24, Try.ntmps24
  go_wp2_with fail
  refine (rRead_any s _ hs).mono ?_
  rintro e w1 ⟨hout, hb1⟩
  rw [RDbOut, unhide HPD] at hout
  dsimp only at hout
  obtain ⟨v, P, q, hPM, rfl, hm, hl, hok⟩ := hout
  have HB1 := hide (show Below (w.heap.size + 1) (w.alloc (.cells #[.string { data := #[] }, .int .i64 0, .slice none 0 0, .int .i64 0] 45)) w1 from hb1.mono (by simp))
  have hx := fun j => box_cell (unhide HB1) j
  have hlt1 : w.heap.size < w1.heap.size := by have := (unhide HB1).size; simp at this; omega
  have hf := fun j => (unhide HB1).frozen (p := ⟨w.heap.size, j, none⟩) (by simp)
  have hblk : w1.heap[w.heap.size]? = some (.cells #[.string { data := #[] }, .int .i64 0, .slice none 0 0, .int .i64 0] 45 (0, 0)) := by rw [(unhide HB1).block w.heap.size (by omega)]; exact blk_new _ _
  have HBLK := hide hblk
  have HM := hide hm
  have HPM := hide hPM
  have hlen : M.length = P.length := by rw [← hPM]; simp
  clear hb1 hok hPM hblk hm
  rcases (unhide HM).opened with ⟨rfl, a, c, rfl⟩ | ⟨g, cap, rfl, hg, hcap, hcm, hc⟩
  · have HL := hide hlen
    clear hlen
    go_wp2
    refine wp_loop_rounds 1 ?_
    rw [rounds_succ]
    go_wp2
    exact bodyPost_ret (v := .tuple #[.agg #[.string { data := #[] }, .int .i64 0, .slice none 0 0, .int .i64 0], .bool false]) (by simp [results, Try.results24, go_sem, hx]) rfl ⟨.inl ⟨by rw [msgIx, unhide HL]; rfl, rfl⟩, set4_below (box_below (unhide HB1)) _ _ _ _⟩
  have HC := hide hc
  have HLEN := hide hlen
  unfold maxLen at hcm
  clear hc hlen
  go_wp2
  go_loop [9] (fun i => ∃ k : Nat, k ≤ P.length ∧ i = .int .i64 k ∧ (∀ j, j < k → decide ((mAt M j).id = id) = false)) (fun i => P.length - (intOf i).toNat)
  case atStart => exact ⟨0, by omega, rfl, by intro j hj; omega⟩
  case round =>
    obtain ⟨k, hk, rfl, hno⟩ := hrel
    have HN := hide hno
    clear hno
    by_cases hlt : k < P.length
    · obtain ⟨c0, c1, c2, c3⟩ := rmcells4 (unhide HC) hg (Below.refl _ _) hlt
      have hsg : RSigsAt w1 (mgAt P k).2 (mgAt P k).1.sigs := (unhide HM).2 _ (mgAt_mem hlt)
      obtain ⟨va, vcap, hva⟩ := ownsRow_form hsg
      rw [hva] at c2 hsg
      have HSG := hide hsg
      have hmk : mAt M k = (mgAt P k).1 := by rw [← unhide HPM, mAt_fst]
      have HMK := hide hmk
      clear hva hsg hmk
      by_cases hid : (mgAt P k).1.id = id
      · have hb3 : ((mgAt P k).1.id.toList == id.toList) = true := by rw [hid]; simp
        have HID := hide hid
        clear hid
        go_wp2
        have hix : msgIx M id = k := findIx_is (unhide HN) (by have := unhide HLEN; omega) (by rw [unhide HMK]; simpa using unhide HID)
        exact bodyPost_ret (v := .tuple #[.agg #[.string (mgAt P k).1.id, .int .i64 (mgAt P k).1.sz, .slice va (mgAt P k).1.sigs.length vcap, .int .i64 (mgAt P k).1.pl], .bool true]) (by simp [results, Try.results24, go_sem, hx]) rfl
          ⟨.inr ⟨k, _, by have := unhide HLEN; omega, hix, by rw [unhide HMK], by rw [unhide HMK]; exact set4_sigs (unhide HSG) (unhide HBLK) (by decide) _ _ _ _⟩, set4_below (box_below (unhide HB1)) _ _ _ _⟩
      · have hb3 : ((mgAt P k).1.id.toList == id.toList) = false := str_ne hid
        have HID := hide hid
        clear hid
        go_wp2
        go_round
        case rel => exact ⟨k + 1, by omega, by go_num, fun j hj => by
            by_cases e : j = k
            · subst e; rw [unhide HMK]; simpa using unhide HID
            · exact unhide HN j (by omega)⟩
        case measure => simp [intOf]; omega
    · go_wp2
      exact bodyPost_ret (v := .tuple #[.agg #[.string { data := #[] }, .int .i64 0, .slice none 0 0, .int .i64 0], .bool false]) (by simp [results, Try.results24, go_sem, hx]) rfl ⟨.inl ⟨findIx_none (fun j hj => unhide HN j (by have := unhide HLEN; omega)), rfl⟩, set4_below (box_below (unhide HB1)) _ _ _ _⟩

end Go.Proofs.Ytoihlnjcgopdlaa

namespace Go.Proofs.Ytoihlnjcgopdlaa
open Go.RowKit

/-- P5, of a message. -/
def upMsg (m : Mg) (p : ByteArray) : List Int × ByteArray × Int × Int :=
  if (p.size : Int) ≠ m.sz then ([], noBytes, 10, 0)
  else (valsL m.sigs (payTo p p.size) (choiceN m.sigs (payTo p p.size)) m.sigs.length, strOfNums (signsL m.sigs (choiceN m.sigs (payTo p p.size)) m.sigs.length), 0, 0)
/-- P5. -/
def up (s id p : ByteArray) : List Int × ByteArray × Int × Int :=
  if 8 < p.size then ([], noBytes, 1, 0) else
  if chkE s ≠ 0 then ([], noBytes, chkE s, chkP s) else
  match pDb s 4 0 with
  | .inl _ => ([], noBytes, 0, 0)
  | .inr M => if msgIx M id < 0 then ([], noBytes, 7, 0) else upMsg (mAt M (msgIx M id).toNat) p

theorem up_eta {x : List Int × ByteArray × Int × Int} {l : List Int} {a : ByteArray} {b c : Int} (h : x = (l, a, b, c)) : x.1 = l ∧ x.2.1 = a ∧ x.2.2.1 = b ∧ x.2.2.2 = c := by rw [h]; exact ⟨rfl, rfl, rfl, rfl⟩
theorem up_long {s id p : ByteArray} (h : 8 < p.size) : up s id p = ([], noBytes, 1, 0) := by rw [up, if_pos h]
theorem up_bad {s id p : ByteArray} (h8 : ¬ 8 < p.size) (h : chkE s ≠ 0) : up s id p = ([], noBytes, chkE s, chkP s) := by rw [up, if_neg h8, if_pos h]
theorem up_id {s id p : ByteArray} {M : List Mg} (h8 : ¬ 8 < p.size) (h : chkE s = 0) (hp : pDb s 4 0 = .inr M) (hi : msgIx M id = -1) : up s id p = ([], noBytes, 7, 0) := by
  rw [up, if_neg h8, if_neg (by omega), hp]; simp only; rw [if_pos (by omega)]
theorem up_msg {s id p : ByteArray} {M : List Mg} {k : Nat} (h8 : ¬ 8 < p.size) (h : chkE s = 0) (hp : pDb s 4 0 = .inr M) (hi : msgIx M id = k) : up s id p = upMsg (mAt M k) p := by
  rw [up, if_neg h8, if_neg (by omega), hp]; simp only; rw [if_neg (by omega), hi, Int.toNat_natCast]

/-- What both calls answer. -/
def UpOut (s id p : ByteArray) (e : Ending) (w' : World) : Prop :=
  ∃ u, e = .returned (.tuple #[u, .string (up s id p).2.1, .int .i64 (up s id p).2.2.1, .int .i64 (up s id p).2.2.2]) ∧ IntsAt w' u (up s id p).1

theorem IntsAt_nil (w : World) : IntsAt w (.slice none 0 0) [] := ⟨none, 0, rfl, by simp, by simp, by simp⟩

theorem upOut_err {s id p : ByteArray} {b c : Int} {w : World} (h : up s id p = ([], noBytes, b, c)) : UpOut s id p (.returned (.tuple #[.slice none 0 0, .string { data := #[] }, .int .i64 b, .int .i64 c])) w := by
  rw [UpOut, h]; exact ⟨_, rfl, IntsAt_nil w⟩

theorem upOut_ok {s id p : ByteArray} {l : List Int} {a : ByteArray} {u : Value} {w : World} (h : up s id p = (l, a, 0, 0)) (hu : IntsAt w u l) : UpOut s id p (.returned (.tuple #[u, .string a, .int .i64 0, .int .i64 0])) w := by
  rw [UpOut, h]; exact ⟨_, rfl, hu⟩

set_option maxRecDepth 100000 in
set_option maxHeartbeats 2000000 in
theorem Unpack_any (s id p : ByteArray) (w : World) (hs : s.size ≤ maxLen) (hid : id.size ≤ maxLen) :
    Calls Try.prog 21 #[.string s, .string id, .string p] w fun e w' => UpOut s id p e w' ∧ Below w.heap.size w w' := by
  go_enter Try.func21, Try.ntmps21
  by_cases h8 : 8 < p.size
  · have HU := hide (up_long (s := s) (id := id) h8)
    have h8i : (8 : Int) < (p.size : Int) := by omega
    clear h8
    go_wp2
    exact bodyPost_ret (v := .tuple #[.slice none 0 0, .string { data := #[] }, .int .i64 1, .int .i64 0]) (by simp [results, Try.results21, go_sem]) rfl ⟨upOut_err (unhide HU), Below.refl _ _⟩
  have h8i : ¬ (8 : Int) < (p.size : Int) := by omega
  have H8 := hide h8
  clear h8
  go_wp2_with fail
  refine (soundMessage_any s id _ hs hid).mono ?_
  rintro e w1 ⟨hout, hb1⟩
  have HB1 := hide hb1
  clear hb1
  rcases hout with ⟨hz, rfl⟩ | ⟨hz, M, hpd, hout⟩
  · have HU := hide (up_bad (id := id) (unhide H8) hz)
    have hz2 : (chkE s != 0) = true := by simpa using hz
    clear hz
    go_wp2
    exact bodyPost_ret (v := .tuple #[.slice none 0 0, .string { data := #[] }, .int .i64 (chkE s), .int .i64 (chkP s)]) (by simp [results, Try.results21, go_sem]) rfl ⟨upOut_err (unhide HU), (unhide HB1).alloc (unhide HB1).size _⟩
  rcases hout with ⟨hix, rfl⟩ | ⟨k, sv, hk, hix, rfl, hsv, hmo⟩
  · have HU := hide (up_id (unhide H8) hz hpd hix)
    clear hz hpd hix
    go_wp2
    exact bodyPost_ret (v := .tuple #[.slice none 0 0, .string { data := #[] }, .int .i64 7, .int .i64 0]) (by simp [results, Try.results21, go_sem]) rfl ⟨upOut_err (unhide HU), (unhide HB1).alloc (unhide HB1).size _⟩
  obtain ⟨m, hm⟩ : ∃ m, m = mAt M k := ⟨_, rfl⟩
  have HPK := hide (up_msg (unhide H8) hz hpd hix)
  have HG := hide (good_of hpd hk).2
  have HAF := hide (sound_fits hz hpd hk)
  rw [← hm] at hsv hmo HPK HG HAF
  rw [← hm]
  obtain ⟨va, vcap, rfl⟩ := ownsRow_form hsv
  have HSV := hide hsv
  clear hz hpd hix hsv hmo hm hk
  have HBB : Hid (Below (w1.heap.size + 1) (w1.alloc (.cells #[.int .i64 m.pl, .int .i64 (idNum m.id), .int .i64 m.sz, .slice va m.sigs.length vcap] 74)) (w1.alloc (.cells #[.int .i64 m.pl, .int .i64 (idNum m.id), .int .i64 m.sz, .slice va m.sigs.length vcap] 74))) := hide (Below.refl _ _)
  by_cases hln : (p.size : Int) = m.sz
  · have hl2 : ((p.size : Int) != m.sz) = false := by rw [hln]; simp
    have HU := hide (show up s id p = _ by rw [unhide HPK, upMsg, if_neg (by simpa using hln)])
    clear hln
    go_wp2_with fail
    refine (payloadBits_any p _ (by have := unhide H8; omega)).mono ?_
    rintro e w2 ⟨rfl, rfl⟩
    go_wp2_with fail
    refine (unpackBits_any _ m.sigs _ _ (ownsRow_below (unhide HSV) (box_below (unhide HBB))) (unhide HG) (unhide HAF) (payTo_64 p p.size (by have := unhide H8; omega))).mono ?_
    rintro e w3 ⟨u, rfl, hu, hb3⟩
    have HB3 := hide (box_next (unhide HBB) hb3)
    have HUU := hide hu
    obtain ⟨ua, ucap, rfl, hu1, hu2, hu3⟩ := hu
    clear hb3 hu1 hu2 hu3
    go_wp2
    exact bodyPost_ret (v := .tuple #[.slice ua (valsL m.sigs (payTo p p.size) (choiceN m.sigs (payTo p p.size)) m.sigs.length).length ucap, .string (strOfNums (signsL m.sigs (choiceN m.sigs (payTo p p.size)) m.sigs.length)), .int .i64 0, .int .i64 0]) (by simp [results, Try.results21, go_sem]) rfl ⟨upOut_ok (unhide HU) (unhide HUU), (unhide HB1).trans ((box_below (unhide HB3)).mono (unhide HB1).size)⟩
  · have HU := hide (show up s id p = _ by rw [unhide HPK, upMsg, if_pos hln])
    have hl2 : ((p.size : Int) != m.sz) = true := by rw [bne_iff_ne]; exact hln
    clear hln
    go_wp2
    exact bodyPost_ret (v := .tuple #[.slice none 0 0, .string { data := #[] }, .int .i64 10, .int .i64 0]) (by simp [results, Try.results21, go_sem]) rfl ⟨upOut_err (unhide HU), (unhide HB1).alloc (unhide HB1).size _⟩

set_option maxRecDepth 100000 in
set_option maxHeartbeats 2000000 in
theorem rUnpack_any (s id p : ByteArray) (w : World) (hs : s.size ≤ maxLen) :
    Calls Try.prog 22 #[.string s, .string id, .string p] w fun e w' => UpOut s id p e w' ∧ Below w.heap.size w w' := by
  go_enter Try.func22, Try.ntmps22
  by_cases h320 : 320 < s.size
  · have hsi : (320 : Int) < (s.size : Int) := by omega
    have HU : Hid (up s id p = ([], noBytes, 1, 0)) := hide (by
      by_cases h8 : 8 < p.size
      · exact up_long h8
      · rw [up_bad h8 (by rw [(chk_long h320).1]; omega), (chk_long h320).1, (chk_long h320).2])
    clear h320
    go_wp2
    exact bodyPost_ret (v := .tuple #[.slice none 0 0, .string { data := #[] }, .int .i64 1, .int .i64 0]) (by simp [results, Try.results22, go_sem]) rfl ⟨upOut_err (unhide HU), Below.refl _ _⟩
  have hsi : ¬ (320 : Int) < (s.size : Int) := by omega
  have H320 := hide h320
  clear h320
  by_cases h8 : 8 < p.size
  · have HU := hide (up_long (s := s) (id := id) h8)
    have h8i : (8 : Int) < (p.size : Int) := by omega
    clear h8
    go_wp2
    exact bodyPost_ret (v := .tuple #[.slice none 0 0, .string { data := #[] }, .int .i64 1, .int .i64 0]) (by simp [results, Try.results22, go_sem]) rfl ⟨upOut_err (unhide HU), Below.refl _ _⟩
  have h8i : ¬ (8 : Int) < (p.size : Int) := by omega
  have H8 := hide h8
  clear h8
  go_wp2_with fail
  refine (rCheck_any s _ hs).mono ?_
  rintro e w0 ⟨rfl, hb0⟩
  have HB0 := hide hb0
  clear hb0
  by_cases hzc : chkE s ≠ 0
  · have HU := hide (up_bad (id := id) (unhide H8) hzc)
    have hz2 : (chkE s != 0) = true := by simpa using hzc
    clear hzc
    go_wp2
    exact bodyPost_ret (v := .tuple #[.slice none 0 0, .string { data := #[] }, .int .i64 (chkE s), .int .i64 (chkP s)]) (by simp [results, Try.results22, go_sem]) rfl ⟨upOut_err (unhide HU), unhide HB0⟩
  have hzc0 : chkE s = 0 := by omega
  have hz2 : (chkE s != 0) = false := by rw [hzc0]; rfl
  obtain ⟨M, hpd⟩ : ∃ M, pDb s 4 0 = .inr M := by
    cases hp : pDb s 4 0 with
    | inl p => rw [(chk_text (unhide H320) hp).1] at hzc0; omega
    | inr M => exact ⟨M, rfl⟩
  have HZC := hide hzc0
  have HPD := hide hpd
  clear hzc hzc0 hpd
  go_wp2_with fail
  refine (rFind_any s id M _ (by have := unhide H320; omega) (unhide HPD)).mono ?_
  rintro e w1 ⟨hout, hb1⟩
  have HB1 := hide ((unhide HB0).trans (hb1.mono (unhide HB0).size))
  clear hb1
  rcases hout with ⟨hix, rfl⟩ | ⟨k, sv, hk, hix, rfl, hsv⟩
  · have HU := hide (up_id (unhide H8) (unhide HZC) (unhide HPD) hix)
    clear hix
    go_wp2
    exact bodyPost_ret (v := .tuple #[.slice none 0 0, .string { data := #[] }, .int .i64 7, .int .i64 0]) (by simp [results, Try.results22, go_sem]) rfl ⟨upOut_err (unhide HU), (unhide HB1).alloc (unhide HB1).size _⟩
  obtain ⟨m, hm⟩ : ∃ m, m = mAt M k := ⟨_, rfl⟩
  have HPK := hide (up_msg (unhide H8) (unhide HZC) (unhide HPD) hix)
  have HG := hide (good_of (unhide HPD) hk).2
  have HWI := hide (sound_within (unhide HZC) (unhide HPD) hk)
  rw [← hm] at hsv HPK HG HWI
  rw [← hm]
  obtain ⟨va, vcap, rfl⟩ := ownsRow_form hsv
  have HSV := hide hsv
  clear hix hsv hm hk
  have HBB : Hid (Below (w1.heap.size + 1) (w1.alloc (.cells #[.string m.id, .int .i64 m.sz, .slice va m.sigs.length vcap, .int .i64 m.pl] 45)) (w1.alloc (.cells #[.string m.id, .int .i64 m.sz, .slice va m.sigs.length vcap, .int .i64 m.pl] 45))) := hide (Below.refl _ _)
  by_cases hln : (p.size : Int) = m.sz
  · have hl2 : ((p.size : Int) != m.sz) = false := by rw [hln]; simp
    have HU := hide (show up s id p = _ by rw [unhide HPK, upMsg, if_neg (by simpa using hln)])
    have HW2 : Hid (Within m.sigs p.size) := hide (by rw [hln]; exact unhide HWI)
    clear hln
    go_wp2_with fail
    refine (rUnpacked_any m.id p m.sz m.pl _ m.sigs _ (ownsRow_below (unhide HSV) (box_below (unhide HBB))) (unhide HG) (by have := unhide H8; omega) (unhide HW2)).mono ?_
    rintro e w3 ⟨u, rfl, hu, hb3⟩
    have HB3 := hide (box_next (unhide HBB) hb3)
    have HUU := hide hu
    obtain ⟨ua, ucap, rfl, hu1, hu2, hu3⟩ := hu
    clear hb3 hu1 hu2 hu3
    go_wp2
    exact bodyPost_ret (v := .tuple #[.slice ua (valsL m.sigs (payTo p p.size) (choiceN m.sigs (payTo p p.size)) m.sigs.length).length ucap, .string (strOfNums (signsL m.sigs (choiceN m.sigs (payTo p p.size)) m.sigs.length)), .int .i64 0, .int .i64 0]) (by simp [results, Try.results22, go_sem]) rfl ⟨upOut_ok (unhide HU) (unhide HUU), (unhide HB1).trans ((box_below (unhide HB3)).mono (unhide HB1).size)⟩
  · have HU := hide (show up s id p = _ by rw [unhide HPK, upMsg, if_pos hln])
    have hl2 : ((p.size : Int) != m.sz) = true := by rw [bne_iff_ne]; exact hln
    clear hln
    go_wp2
    exact bodyPost_ret (v := .tuple #[.slice none 0 0, .string { data := #[] }, .int .i64 10, .int .i64 0]) (by simp [results, Try.results22, go_sem]) rfl ⟨upOut_err (unhide HU), (unhide HB1).alloc (unhide HB1).size _⟩

end Go.Proofs.Ytoihlnjcgopdlaa

namespace Go.Proofs.Ytoihlnjcgopdlaa
open Go.RowKit

/-- What is run: no value, no mark, the payload's bits. -/
def stN (N : Nat) : St := ⟨fun _ => 0, fun _ => false, N⟩
/-- P10, as the program answers it. -/
def readOut (s p : ByteArray) : List Int × ByteArray × Int × Int :=
  if 8 < p.size then ([], noBytes, 1, 0) else if vE s ≠ 0 then ([], noBytes, vE s, vP s)
  else if (runL (codeL s) (stN (payTo p p.size))).2.1 ≠ 0 then ([], noBytes, (runL (codeL s) (stN (payTo p p.size))).2.1, (runL (codeL s) (stN (payTo p p.size))).2.2)
  else (regsM (runL (codeL s) (stN (payTo p p.size))).1 8, strOfNums (signsM (runL (codeL s) (stN (payTo p p.size))).1 8), 0, 0)
def ReadOut (s p : ByteArray) (e : Ending) (w' : World) : Prop := ∃ u, e = .returned (.tuple #[u, .string (readOut s p).2.1, .int .i64 (readOut s p).2.2.1, .int .i64 (readOut s p).2.2.2]) ∧ IntsAt w' u (readOut s p).1

theorem rd_eta (x : List Int × ByteArray × Int × Int) {z : List Int} {a : ByteArray} {b c : Int} (h : x = (z, a, b, c)) : x.1 = z ∧ x.2.1 = a ∧ x.2.2.1 = b ∧ x.2.2.2 = c := by rw [h]; exact ⟨rfl, rfl, rfl, rfl⟩
theorem nil_ints (w : World) : IntsAt w (.slice none 0 0) [] := ⟨none, 0, rfl, by simp, by simp, by simp⟩
theorem mach_newN (w : World) (N : Nat) : MachAt (w.alloc (.cells #[.int .i64 0, .int .i64 0, .int .i64 0, .int .i64 0, .int .i64 0, .int .i64 0, .int .i64 0, .int .i64 0, .bool false, .bool false, .bool false, .bool false, .bool false, .bool false, .bool false, .bool false, .int .u64 N] 101)) w.heap.size (stN N) :=
  ⟨rfl, .inr ⟨_, 1, _, rfl, Nat.le_refl _, blk_new _ _, Nat.le_refl _, by simp [maxLen], rfl, rfl⟩⟩

set_option maxRecDepth 100000 in
set_option maxHeartbeats 2000000 in
theorem Read_any (s p : ByteArray) (w : World) :
    Calls Try.prog 32 #[.string s, .string p] w fun e w' => ReadOut s p e w' ∧ Below w.heap.size w w' := by
  obtain ⟨j0, jinf, jz0, jz1, jz2⟩ := info_parts Try.infoInt
  have JINF := hide jinf
  have JZ0 := hide jz0
  have JZ1 := hide jz1
  have JZ2 := hide jz2
  clear jinf jz0 jz1 jz2
  by_cases hp8 : 8 < p.size
  · have HO := hide (rd_eta _ (show readOut s p = ([], noBytes, 1, 0) by rw [readOut, if_pos hp8]))
    have hp8' : (8 : Int) < (p.size : Int) := by omega
    go_enter Try.func32, Try.ntmps32
    go_wp2
    exact bodyPost_ret (v := .tuple #[.slice none 0 0, .string noBytes, .int .i64 1, .int .i64 0]) (by simp [results, Try.results32, go_sem, noBytes]) rfl ⟨⟨_, by rw [(unhide HO).2.1, (unhide HO).2.2.1, (unhide HO).2.2.2], by rw [(unhide HO).1]; exact nil_ints _⟩, Below.refl _ _⟩
  have hp8' : (p.size : Int) ≤ 8 := by omega
  go_enter Try.func32, Try.ntmps32
  go_wp2_with fail
  refine (soundCode_any s _).mono ?_
  rintro e w1 ⟨⟨pa, pn, pcap, rfl, hin⟩, hb1⟩
  have HB1 := hide hb1
  clear hb1
  by_cases hve : vE s ≠ 0
  · have HO := hide (rd_eta _ (show readOut s p = ([], noBytes, vE s, vP s) by rw [readOut, if_neg hp8, if_pos hve]))
    have hve2 : (vE s != 0) = true := by simpa using hve
    clear hve
    go_wp2
    exact bodyPost_ret (v := .tuple #[.slice none 0 0, .string noBytes, .int .i64 (vE s), .int .i64 (vP s)]) (by simp [results, Try.results32, go_sem, noBytes]) rfl ⟨⟨_, by rw [(unhide HO).2.1, (unhide HO).2.2.1, (unhide HO).2.2.2], by rw [(unhide HO).1]; exact nil_ints _⟩, unhide HB1⟩
  have hve : vE s = 0 := by omega
  have HIN := hide (hin hve)
  have HVE := hide hve
  have hve2 : (vE s != 0) = false := by rw [hve]; rfl
  clear hin hve
  obtain ⟨N, HN⟩ : ∃ N, Hid (N = payTo p p.size) := ⟨_, hide rfl⟩
  have HNL := hide (show N < 18446744073709551616 by rw [unhide HN]; exact payTo_64 p _ (by omega))
  obtain ⟨R, HR⟩ : ∃ R, Hid (R = runL (codeL s) (stN N)) := ⟨_, hide rfl⟩
  have HO := hide (show readOut s p = if R.2.1 ≠ 0 then ([], noBytes, R.2.1, R.2.2) else (regsM R.1 8, strOfNums (signsM R.1 8), 0, 0) by rw [readOut, if_neg hp8, if_neg (by rw [unhide HVE]; simp), unhide HR, unhide HN])
  have hm0 := mach_new w1 []
  have hfr := hm0.free 16
  have hn0 := hm0.bits
  have HM0 := hide hm0
  clear hm0
  go_wp2_with fail
  refine (payloadBits_any p _ (by omega)).mono ?_
  rintro e w2 ⟨rfl, rfl⟩
  rw [← unhide HN]
  have HM1 := hide (mach_newN w1 N)
  have HB2 := hide (show Below w1.heap.size w1 (w1.alloc (.cells #[.int .i64 0, .int .i64 0, .int .i64 0, .int .i64 0, .int .i64 0, .int .i64 0, .int .i64 0, .int .i64 0, .bool false, .bool false, .bool false, .bool false, .bool false, .bool false, .bool false, .bool false, .int .u64 N] 101)) from (Below.refl _ _).alloc (Nat.le_refl _) _)
  go_wp2_with fail
  refine (run_any w1.heap.size _ (codeL s) (stN N) w1 _ (unhide HIN) (Nat.le_refl _) (unhide HB2) (unhide HM1) (unhide HNL) (code_fine (unhide HVE)).1 (code_fine (unhide HVE)).2).mono ?_
  rintro e w3 ⟨rfl, hm3, _, hb3⟩
  rw [← unhide HR] at hm3 ⊢
  have HM3 := hide hm3
  have HB3 := hide ((unhide HB1).trans (((unhide HB2).trans hb3).mono (unhide HB1).size))
  clear hm3 hb3 hfr hn0
  by_cases hre : R.2.1 ≠ 0
  · have HP := hide (rd_eta _ (show readOut s p = ([], noBytes, R.2.1, R.2.2) by rw [unhide HO, if_pos hre]))
    have hre2 : (R.2.1 != 0) = true := by simpa using hre
    clear hre
    go_wp2
    exact bodyPost_ret (v := .tuple #[.slice none 0 0, .string noBytes, .int .i64 R.2.1, .int .i64 R.2.2]) (by simp [results, Try.results32, go_sem, noBytes]) rfl ⟨⟨_, by rw [(unhide HP).2.1, (unhide HP).2.2.1, (unhide HP).2.2.2], by rw [(unhide HP).1]; exact nil_ints _⟩, unhide HB3⟩
  have HP := hide (rd_eta _ (show readOut s p = (regsM R.1 8, strOfNums (signsM R.1 8), 0, 0) by rw [unhide HO, if_neg hre]))
  have hre2 : (R.2.1 != 0) = false := by simpa using hre
  clear hre
  go_wp2
  go_loopw [12, 13] (fun v i wr => ∃ k : Nat, k ≤ 8 ∧ i = .int .i64 k ∧ wr.ownsRow w3.heap.size 3 1 v k ((regsM R.1 k).map (Value.int .i64)) ∧ Below w3.heap.size w3 wr) (fun _ i _ => 8 - (intOf i).toNat)
  case atStart => exact ⟨0, by omega, rfl, ⟨by simp [regsM], .inr ⟨_, 0, #[], rfl, Nat.le_refl _, blk_new _ _, by simp, by simp [maxLen], by simp, by simp [regsM]⟩⟩, (Below.refl _ _).alloc (Nat.le_refl _) _⟩
  case round =>
    obtain ⟨k, hk, rfl, hown, hb⟩ := hrel
    obtain ⟨sa, cap, rfl⟩ := ownsRow_form hown
    have HOWN := hide hown
    have HB := hide hb
    clear hown hb
    by_cases hlt : k < 8
    · have hmk := ((unhide HM3).bel (unhide HB)).reg hlt
      have hi0 : (0 : Int) ≤ (k : Int) := by omega
      have hi1 : (k : Int) < 8 := by omega
      go_wp2_with (at_builtin; refine wpList_append_own _ rfl _ _ 29 rfl w3.heap.size 3 j0 _ 1 8 Try.underlying29 (unhide JINF) (unhide JZ0) (unhide JZ1) (unhide JZ2) rfl (by decide) _ _ _ rfl ((unhide HOWN).alloc _) ⟨wr.heap.size, 0, none⟩ 1 1 [.int .i64 (R.1.reg k)] rfl rfl ?c1 ?c2 ?c3 ?c4 ?c5 ?_)
      case c1 => exact new_cells (blk_new _ _)
      case c2 => simp [Value.oneCell']
      case c3 => unfold maxLen; omega
      case c4 => omega
      case c5 => have := (unhide HB).size; simp; omega
      intro v3 w4 hown3 hgrow _
      obtain ⟨a3, cap3, rfl⟩ := ownsRow_form hown3
      have HB4 := hide (Below.grown ((unhide HB).alloc (unhide HB).size _) hgrow (by have := (unhide HB).size; simp; omega) (fun k hk => ((unhide HOWN).lt k hk).1))
      have HOWN3 := hide hown3
      clear hown3 hgrow hmk
      go_wp2
      go_roundw
      case rel =>
        refine ⟨k + 1, by omega, by go_num, ?_, unhide HB4⟩
        have := unhide HOWN3
        rw [regsM_succ, List.map_append]
        exact this
      case measure => simp [intOf]; omega
    · have hkn : k = 8 := by omega
      subst hkn
      go_wp2_with fail
      refine (signs_any w1.heap.size R.1 _ ((unhide HM3).bel (unhide HB))).mono ?_
      rintro e w5 ⟨rfl, hb5⟩
      have HB5 := hide ((unhide HB3).trans (((unhide HB).trans (hb5.mono (unhide HB).size)).mono (unhide HB3).size))
      have HI := hide (IntsAt_row (Z := regsM R.1 8) (by rw [regsM_len]; exact ownsRow_bel (unhide HOWN) hb5))
      clear hb5
      go_wp2
      exact bodyPost_ret (v := .tuple #[.slice sa 8 cap, .string (strOfNums (signsM R.1 8)), .int .i64 0, .int .i64 0]) (by simp [results, Try.results32, go_sem]) rfl ⟨⟨_, by rw [(unhide HP).2.1, (unhide HP).2.2.1, (unhide HP).2.2.2], by rw [(unhide HP).1]; exact unhide HI⟩, unhide HB5⟩

end Go.Proofs.Ytoihlnjcgopdlaa

namespace Go.Proofs.Ytoihlnjcgopdlaa
open Go.RowKit

theorem num_any (x : Int) (w : World) : Calls Try.prog 17 #[.int .i64 x] w fun e w' => e = .returned (.int .i64 x) ∧ w = w' := by
  go_enter Try.func17, Try.ntmps17
  go_wp2
  go_ret
  exact ⟨rfl, rfl⟩

set_option maxRecDepth 100000 in
set_option maxHeartbeats 1000000 in
theorem Same_any (u v : Value) (Z : List Int) (w : World) (hu : IntsAt w u Z) (hv : IntsAt w v Z) (hl8 : Z.length * 8 ≤ 140737488351232) :
    Calls Try.prog 23 #[u, v] w fun e w' => e = .returned (.bool true) ∧ Below w.heap.size w w' := by
  obtain ⟨ua, ucap, rfl, hu1, hu2, hu3⟩ := hu
  obtain ⟨va, vcap, rfl, hv1, hv2, hv3⟩ := hv
  have HU2 := hide hu2
  have HU3 := hide hu3
  have HV2 := hide hv2
  have HV3 := hide hv3
  clear hu2 hu3 hv2 hv3
  have hne : ((Z.length : Int) != (Z.length : Int)) = false := by simp
  go_enter Try.func23, Try.ntmps23
  go_wp2
  go_loopw [5] (fun i wr => ∃ k : Nat, k ≤ Z.length ∧ i = .int .i64 k ∧ Below w.heap.size w wr) (fun i _ => Z.length - (intOf i).toNat)
  case atStart => exact ⟨0, by omega, rfl, Below.refl _ _⟩
  case round =>
    obtain ⟨k, hk, rfl, hb⟩ := hrel
    by_cases hlt : k < Z.length
    · cases ua with
      | none => have := unhide HU2 rfl; omega
      | some xa =>
        cases va with
        | none => have := unhide HV2 rfl; omega
        | some ya =>
          have hx := fun (wx : World) (h : Below w.heap.size w wx) => ints_cell (unhide HU3 xa rfl) h hlt
          have hy := fun (wx : World) (h : Below w.heap.size w wx) => ints_cell (unhide HV3 ya rfl) h hlt
          have hi0 : (0 : Int) ≤ (k : Int) := by omega
          have hi1 : (k : Int) < (Z.length : Int) := by omega
          have hzz : (zAt Z k != zAt Z k) = false := by simp
          go_wp2
          refine wp_region_noPanic ?_
          refine wp_region_held_drew (S := fun w' => Below w.heap.size w w') (by kernel_rfl) hb.drew (fun hHeld => ?_)
          refine wpAnyH_take (i := 0) (v := ?_) (at_list rfl) (by kernel_rfl) (by kernel_rfl) (by kernel_rfl) (fun _ _ _ h => h) (Or.inl ⟨by rfl, ?_⟩) (by assumption) ?_
          rotate_left
          · intro w hSw; (try dsimp only at hSw); first | (go_simp; done) | (go_simp; with_reducible rfl)
          try simp only [Act.put]
          try simp only [List.setIfInBounds_toArray]
          try simp only [List.set_cons_succ]
          try simp only [List.set_cons_zero]
          refine wpAnyH_take (i := 1) (v := ?_) (at_list rfl) (by kernel_rfl) (by kernel_rfl) (by kernel_rfl) (fun _ _ _ h => h) (Or.inl ⟨by rfl, ?_⟩) (by assumption) ?_
          rotate_left
          · intro w hSw; (try dsimp only at hSw); first | (go_simp; done) | (go_simp; with_reducible rfl)
          try simp only [Act.put]
          try simp only [List.setIfInBounds_toArray]
          try simp only [List.set_cons_succ]
          try simp only [List.set_cons_zero]
          refine wpAnyH_take (i := 2) (v := ?_) (at_list rfl) (by kernel_rfl) (by kernel_rfl) (by kernel_rfl) (fun _ _ _ h => h) (Or.inl ⟨by rfl, ?_⟩) (by assumption) ?_
          rotate_left
          · intro w hSw; (try dsimp only at hSw); first | (go_simp; done) | (go_simp; with_reducible rfl)
          try simp only [Act.put]
          try simp only [List.setIfInBounds_toArray]
          try simp only [List.set_cons_succ]
          try simp only [List.set_cons_zero]
          refine wpAnyH_take (i := 3) (v := ?_) (at_list rfl) (by kernel_rfl) (by kernel_rfl) (by kernel_rfl) (fun _ _ _ h => h) (Or.inl ⟨by rfl, ?_⟩) (by assumption) ?_
          rotate_left
          · intro w hSw; (try dsimp only at hSw); first | (go_simp; done) | (go_simp; with_reducible rfl)
          try simp only [Act.put]
          try simp only [List.setIfInBounds_toArray]
          try simp only [List.set_cons_succ]
          try simp only [List.set_cons_zero]
          refine wpAnyH_take (i := 4) (v := ?_) (at_list rfl) (by kernel_rfl) (by kernel_rfl) (by kernel_rfl) (fun _ _ _ h => h) (Or.inl ⟨by rfl, ?_⟩) (by assumption) ?_
          rotate_left
          · intro w hSw; (try dsimp only at hSw); first | (go_simp; done) | (go_simp; with_reducible rfl)
          try simp only [Act.put]
          try simp only [List.setIfInBounds_toArray]
          try simp only [List.set_cons_succ]
          try simp only [List.set_cons_zero]
          refine wpAnyH_take (i := 5) (v := ?_) (at_list rfl) (by kernel_rfl) (by kernel_rfl) (by kernel_rfl) (fun _ _ _ h => h) (Or.inl ⟨by rfl, ?_⟩) (by assumption) ?_
          rotate_left
          · intro w hSw; (try dsimp only at hSw); first | (go_simp; done) | (go_simp; with_reducible rfl)
          try simp only [Act.put]
          try simp only [List.setIfInBounds_toArray]
          try simp only [List.set_cons_succ]
          try simp only [List.set_cons_zero]
          refine wpAnyH_take (i := 6) (v := ?_) (at_list rfl) (by kernel_rfl) (by kernel_rfl) (by kernel_rfl) (fun _ _ _ h => h) (Or.inl ⟨by rfl, ?_⟩) (by assumption) ?_
          rotate_left
          · intro w hSw; (try dsimp only at hSw); first | (go_simp; done) | (go_simp; with_reducible rfl)
          try simp only [Act.put]
          try simp only [List.setIfInBounds_toArray]
          try simp only [List.set_cons_succ]
          try simp only [List.set_cons_zero]
          refine wpAnyH_take (i := 7) (v := ?_) (at_list rfl) (by kernel_rfl) (by kernel_rfl) (by kernel_rfl) (fun _ _ _ h => h) (Or.inl ⟨by rfl, ?_⟩) (by assumption) ?_
          rotate_left
          · intro w hSw; (try dsimp only at hSw); first | (go_simp; done) | (go_simp; with_reducible rfl)
          try simp only [Act.put]
          try simp only [List.setIfInBounds_toArray]
          try simp only [List.set_cons_succ]
          try simp only [List.set_cons_zero]
          refine wpAnyH_take (i := 8) (v := ?_) (at_list rfl) (by kernel_rfl) (by kernel_rfl) (by kernel_rfl) (fun _ _ _ h => h) (Or.inl ⟨by rfl, ?_⟩) (by assumption) ?_
          rotate_left
          · intro w hSw; (try dsimp only at hSw); first | (go_simp; done) | (go_simp; with_reducible rfl)
          try simp only [Act.put]
          try simp only [List.setIfInBounds_toArray]
          try simp only [List.set_cons_succ]
          try simp only [List.set_cons_zero]
          refine wpAnyH_done (by kernel_rfl) ?_ _
          refine NoPanic.normal ?_
          clear hx hy
          go_wp2
          go_roundw
          case rel => exact ⟨k + 1, by omega, by go_num, by assumption⟩
          case measure => simp [intOf]; omega
    · go_wp2
      go_ret
      exact ⟨rfl, hb⟩

end Go.Proofs.Ytoihlnjcgopdlaa

namespace Go.Proofs.Ytoihlnjcgopdlaa
open Go.RowKit

theorem runL_err : ∀ (n : Nat) (L : List Ins) (S : St), L.length ≤ n → (runL L S).2.1 = 0 ∨ (runL L S).2.1 = 9 := by
  intro n
  induction n with
  | zero => intro L S h; cases L with
    | nil => exact .inl rfl
    | cons x l => simp at h
  | succ n ih =>
    intro L S h
    cases L with
    | nil => exact .inl rfl
    | cons x l =>
      rw [runL_cons]
      cases act x S with
      | none => exact .inr rfl
      | some y =>
        obtain ⟨s', d⟩ := y
        exact ih _ _ (by simp at h ⊢; omega)

theorem payB_size (N n : Nat) : (payB N n).size = n := by rw [payB, strOfNums_size, bytesL_len]
theorem fill_safe {s : ByteArray} {Z : List Int} {sz : Int} (h : vE s = 0) (h0 : 0 ≤ sz) (h8 : sz ≤ 8) (hz : Z.length ≤ 8) : ∃ a b c, fillOut s Z sz = (a, b, c) ∧ (b = 0 ∧ (a.size : Int) = sz ∨ b = 9) := by
  rw [fillOut, if_neg (by omega), if_neg (by omega), if_neg (by omega)]
  split
  · rename_i hre
    refine ⟨_, _, _, rfl, .inr ?_⟩
    rcases runL_err _ (codeL s) (st0 Z) (Nat.le_refl _) with h1 | h1
    · exact absurd h1 hre
    · exact h1
  · exact ⟨_, _, _, rfl, .inl ⟨rfl, by rw [payB_size]; omega⟩⟩
theorem read_safe {s p : ByteArray} (h : vE s = 0) (hp : p.size ≤ 8) : ∃ z a b c, readOut s p = (z, a, b, c) ∧ (b = 0 ∧ z.length = 8 ∧ a.size = 8 ∨ b = 9) := by
  rw [readOut, if_neg (by omega), if_neg (by omega)]
  split
  · rename_i hre
    refine ⟨_, _, _, _, rfl, .inr ?_⟩
    rcases runL_err _ (codeL s) (stN (payTo p p.size)) (Nat.le_refl _) with h1 | h1
    · exact absurd h1 hre
    · exact h1
  · exact ⟨_, _, _, _, rfl, .inl ⟨rfl, by simp [regsM], by rw [strOfNums_size, signsM_len]⟩⟩
theorem ints_take {w : World} {a : Option Addr} {n cap : Nat} {Z : List Int} (h : IntsAt w (.slice a n cap) Z) (h8 : 8 < Z.length) : IntsAt w (.slice a 8 cap) (Z.take 8) := by
  obtain ⟨a', cap', hv, h1, h2, h3⟩ := h
  cases hv
  have hl : (Z.take 8).length = 8 := by rw [List.length_take]; omega
  refine ⟨_, _, by rw [hl], by rw [hl]; omega, fun e => by have := h2 e; omega, fun x hx => ?_⟩
  obtain ⟨h4, h5⟩ := h3 x hx
  refine ⟨fun _ => h4 (by omega), fun i hi => ?_⟩
  rw [h5 i (by omega)]
  rw [hl] at hi
  simp [zAt, hi]

set_option maxRecDepth 100000 in
set_option maxHeartbeats 4000000 in
theorem Safe_any (s : ByteArray) (v : Value) (Z : List Int) (p : ByteArray) (w : World) (hz : IntsAt w v Z) (hr : Z.length * 8 ≤ 140737488351232) :
    Calls Try.prog 11 #[.string s, v, .string p] w fun e w' => e = .returned (.bool true) ∧ Below w.heap.size w w' := by
  have HZ := hide hz
  obtain ⟨za, zcap, rfl, hz1, hz2, hz3⟩ := hz
  clear hz2 hz3
  go_enter Try.func11, Try.ntmps11
  go_wp2_with fail
  refine (Verify_any s _).mono ?_
  rintro e w0 ⟨rfl, hb0⟩
  have HB0 := hide hb0
  clear hb0
  go_wp2_with fail
  refine (copied_any _ Z _ ((unhide HZ).below (unhide HB0)) hr).mono ?_
  rintro e w1 ⟨u, rfl, hu, hb1⟩
  have HB1 := hide ((unhide HB0).trans (hb1.mono (unhide HB0).size))
  have HU0 := hide hu
  obtain ⟨ua, ucap, rfl, hu1, hu2, hu3⟩ := hu
  clear hu2 hu3 hb1
  have hlm : (Z.length : Int) ≤ (ucap : Int) := by omega
  by_cases hz8 : 8 < Z.length
  rotate_left
  · have HU := HU0
    have HYL := hide hr
    have hz8' : (Z.length : Int) ≤ 8 := by omega
    clear HU0 HZ
    by_cases hp8 : 8 < p.size
    · have hp8' : (8 : Int) < (p.size : Int) := by omega
      have HQS := hide (show (p.extract 0 8).size = 8 by rw [ByteArray.size_extract]; omega)
      go_wp2_with fail
      refine (Fill_any s _ Z ((min 8 p.size : Nat) : Int) _ (unhide HU) (unhide HYL)).mono ?_
      rintro e w2 ⟨rfl, hb2⟩
      have HB2 := hide ((unhide HB1).trans (hb2.mono (unhide HB1).size))
      clear hb2
      go_wp2_with fail
      refine (Read_any s (p.extract 0 8) _).mono ?_
      rintro e w3 ⟨⟨x, rfl, hx⟩, hb3⟩
      have HB3 := hide ((unhide HB2).trans (hb3.mono (unhide HB2).size))
      obtain ⟨xa, xcap, rfl, hx1, hx2, hx3⟩ := hx
      clear hx1 hx2 hx3 hb3
      by_cases hve : vE s ≠ 0
      · have hF := pk_eta _ (show fillOut s Z ((min 8 p.size : Nat) : Int) = (noBytes, vE s, vP s) by rw [fillOut, if_pos hve])
        have hR := rd_eta _ (show readOut s (p.extract 0 8) = ([], noBytes, vE s, vP s) by rw [readOut, if_neg (by rw [unhide HQS]; omega), if_pos hve])
        rw [hF.1, hF.2.1, hF.2.2, hR.1, hR.2.1, hR.2.2.1, hR.2.2.2, noBytes]
        have hve2 : (vE s != 0) = true := by simpa using hve
        have hee : (vE s == vE s) = true := by simp
        have hpp : (vP s == vP s) = true := by simp
        clear hF hR hve HU
        generalize vE s = ve at *
        generalize vP s = vp at *
        go_wp2_with (go_at_call 17; refine (num_any _ _).mono ?_; rintro e w' ⟨rfl, rfl⟩)
        go_ret
        exact ⟨rfl, unhide HB3⟩
      · have hve0 : vE s = 0 := by omega
        obtain ⟨fa, fb, fc, hF0, hFs⟩ := fill_safe (Z := Z) (sz := ((min 8 p.size : Nat) : Int)) hve0 (by omega) (by omega) (by omega)
        obtain ⟨rz, ra, rb, rc, hR0, hRs⟩ := read_safe (p := (p.extract 0 8)) hve0 (by rw [unhide HQS]; omega)
        have hF := pk_eta _ hF0
        have hR := rd_eta _ hR0
        rw [hF.1, hF.2.1, hF.2.2, hR.1, hR.2.1, hR.2.2.1, hR.2.2.2]
        have hve2 : (vE s != 0) = false := by rw [hve0]; rfl
        clear hF hR hF0 hR0 HU
        rcases hFs with ⟨rfl, hFs⟩ | rfl
        · have hfn : ((fa.size : Int) != ((min 8 p.size : Nat) : Int)) = false := by rw [hFs]; simp
          clear hFs
          rcases hRs with ⟨rfl, hRz, hRa⟩ | rfl
          · have hrn : ((rz.length : Int) != 8) = false := by rw [hRz]; rfl
            have hrm : ((ra.size : Int) != 8) = false := by rw [hRa]; rfl
            clear hRz hRa
            go_wp2_with (go_at_call 17; refine (num_any _ _).mono ?_; rintro e w' ⟨rfl, rfl⟩)
            go_ret
            exact ⟨rfl, unhide HB3⟩
          · go_wp2_with (go_at_call 17; refine (num_any _ _).mono ?_; rintro e w' ⟨rfl, rfl⟩)
            go_ret
            exact ⟨rfl, unhide HB3⟩
        · rcases hRs with ⟨rfl, hRz, hRa⟩ | rfl
          · have hrn : ((rz.length : Int) != 8) = false := by rw [hRz]; rfl
            have hrm : ((ra.size : Int) != 8) = false := by rw [hRa]; rfl
            clear hRz hRa
            go_wp2_with (go_at_call 17; refine (num_any _ _).mono ?_; rintro e w' ⟨rfl, rfl⟩)
            go_ret
            exact ⟨rfl, unhide HB3⟩
          · go_wp2_with (go_at_call 17; refine (num_any _ _).mono ?_; rintro e w' ⟨rfl, rfl⟩)
            go_ret
            exact ⟨rfl, unhide HB3⟩
    · have hp8' : (p.size : Int) ≤ 8 := by omega
      go_wp2_with fail
      refine (Fill_any s _ Z (p.size : Int) _ (unhide HU) (unhide HYL)).mono ?_
      rintro e w2 ⟨rfl, hb2⟩
      have HB2 := hide ((unhide HB1).trans (hb2.mono (unhide HB1).size))
      clear hb2
      go_wp2_with fail
      refine (Read_any s p _).mono ?_
      rintro e w3 ⟨⟨x, rfl, hx⟩, hb3⟩
      have HB3 := hide ((unhide HB2).trans (hb3.mono (unhide HB2).size))
      obtain ⟨xa, xcap, rfl, hx1, hx2, hx3⟩ := hx
      clear hx1 hx2 hx3 hb3
      by_cases hve : vE s ≠ 0
      · have hF := pk_eta _ (show fillOut s Z (p.size : Int) = (noBytes, vE s, vP s) by rw [fillOut, if_pos hve])
        have hR := rd_eta _ (show readOut s p = ([], noBytes, vE s, vP s) by rw [readOut, if_neg (by omega), if_pos hve])
        rw [hF.1, hF.2.1, hF.2.2, hR.1, hR.2.1, hR.2.2.1, hR.2.2.2, noBytes]
        have hve2 : (vE s != 0) = true := by simpa using hve
        have hee : (vE s == vE s) = true := by simp
        have hpp : (vP s == vP s) = true := by simp
        clear hF hR hve HU
        generalize vE s = ve at *
        generalize vP s = vp at *
        go_wp2_with (go_at_call 17; refine (num_any _ _).mono ?_; rintro e w' ⟨rfl, rfl⟩)
        go_ret
        exact ⟨rfl, unhide HB3⟩
      · have hve0 : vE s = 0 := by omega
        obtain ⟨fa, fb, fc, hF0, hFs⟩ := fill_safe (Z := Z) (sz := (p.size : Int)) hve0 (by omega) (by omega) (by omega)
        obtain ⟨rz, ra, rb, rc, hR0, hRs⟩ := read_safe (p := p) hve0 (by omega)
        have hF := pk_eta _ hF0
        have hR := rd_eta _ hR0
        rw [hF.1, hF.2.1, hF.2.2, hR.1, hR.2.1, hR.2.2.1, hR.2.2.2]
        have hve2 : (vE s != 0) = false := by rw [hve0]; rfl
        clear hF hR hF0 hR0 HU
        rcases hFs with ⟨rfl, hFs⟩ | rfl
        · have hfn : ((fa.size : Int) != (p.size : Int)) = false := by rw [hFs]; simp
          clear hFs
          rcases hRs with ⟨rfl, hRz, hRa⟩ | rfl
          · have hrn : ((rz.length : Int) != 8) = false := by rw [hRz]; rfl
            have hrm : ((ra.size : Int) != 8) = false := by rw [hRa]; rfl
            clear hRz hRa
            go_wp2_with (go_at_call 17; refine (num_any _ _).mono ?_; rintro e w' ⟨rfl, rfl⟩)
            go_ret
            exact ⟨rfl, unhide HB3⟩
          · go_wp2_with (go_at_call 17; refine (num_any _ _).mono ?_; rintro e w' ⟨rfl, rfl⟩)
            go_ret
            exact ⟨rfl, unhide HB3⟩
        · rcases hRs with ⟨rfl, hRz, hRa⟩ | rfl
          · have hrn : ((rz.length : Int) != 8) = false := by rw [hRz]; rfl
            have hrm : ((ra.size : Int) != 8) = false := by rw [hRa]; rfl
            clear hRz hRa
            go_wp2_with (go_at_call 17; refine (num_any _ _).mono ?_; rintro e w' ⟨rfl, rfl⟩)
            go_ret
            exact ⟨rfl, unhide HB3⟩
          · go_wp2_with (go_at_call 17; refine (num_any _ _).mono ?_; rintro e w' ⟨rfl, rfl⟩)
            go_ret
            exact ⟨rfl, unhide HB3⟩
  · have HU := hide (ints_take (unhide HU0) hz8)
    have HYL := hide (show (Z.take 8).length * 8 ≤ 140737488351232 by rw [List.length_take]; omega)
    have hz8' : (8 : Int) < (Z.length : Int) := by omega
    have hz9 : (8 : Int) ≤ (ucap : Int) := by omega
    clear HU0 HZ
    by_cases hp8 : 8 < p.size
    · have hp8' : (8 : Int) < (p.size : Int) := by omega
      have HQS := hide (show (p.extract 0 8).size = 8 by rw [ByteArray.size_extract]; omega)
      go_wp2_with fail
      refine (Fill_any s _ (Z.take 8) ((min 8 p.size : Nat) : Int) _ (unhide HU) (unhide HYL)).mono ?_
      rintro e w2 ⟨rfl, hb2⟩
      have HB2 := hide ((unhide HB1).trans (hb2.mono (unhide HB1).size))
      clear hb2
      go_wp2_with fail
      refine (Read_any s (p.extract 0 8) _).mono ?_
      rintro e w3 ⟨⟨x, rfl, hx⟩, hb3⟩
      have HB3 := hide ((unhide HB2).trans (hb3.mono (unhide HB2).size))
      obtain ⟨xa, xcap, rfl, hx1, hx2, hx3⟩ := hx
      clear hx1 hx2 hx3 hb3
      by_cases hve : vE s ≠ 0
      · have hF := pk_eta _ (show fillOut s (Z.take 8) ((min 8 p.size : Nat) : Int) = (noBytes, vE s, vP s) by rw [fillOut, if_pos hve])
        have hR := rd_eta _ (show readOut s (p.extract 0 8) = ([], noBytes, vE s, vP s) by rw [readOut, if_neg (by rw [unhide HQS]; omega), if_pos hve])
        rw [hF.1, hF.2.1, hF.2.2, hR.1, hR.2.1, hR.2.2.1, hR.2.2.2, noBytes]
        have hve2 : (vE s != 0) = true := by simpa using hve
        have hee : (vE s == vE s) = true := by simp
        have hpp : (vP s == vP s) = true := by simp
        clear hF hR hve HU
        generalize vE s = ve at *
        generalize vP s = vp at *
        go_wp2_with (go_at_call 17; refine (num_any _ _).mono ?_; rintro e w' ⟨rfl, rfl⟩)
        go_ret
        exact ⟨rfl, unhide HB3⟩
      · have hve0 : vE s = 0 := by omega
        obtain ⟨fa, fb, fc, hF0, hFs⟩ := fill_safe (Z := (Z.take 8)) (sz := ((min 8 p.size : Nat) : Int)) hve0 (by omega) (by omega) (by rw [List.length_take]; omega)
        obtain ⟨rz, ra, rb, rc, hR0, hRs⟩ := read_safe (p := (p.extract 0 8)) hve0 (by rw [unhide HQS]; omega)
        have hF := pk_eta _ hF0
        have hR := rd_eta _ hR0
        rw [hF.1, hF.2.1, hF.2.2, hR.1, hR.2.1, hR.2.2.1, hR.2.2.2]
        have hve2 : (vE s != 0) = false := by rw [hve0]; rfl
        clear hF hR hF0 hR0 HU
        rcases hFs with ⟨rfl, hFs⟩ | rfl
        · have hfn : ((fa.size : Int) != ((min 8 p.size : Nat) : Int)) = false := by rw [hFs]; simp
          clear hFs
          rcases hRs with ⟨rfl, hRz, hRa⟩ | rfl
          · have hrn : ((rz.length : Int) != 8) = false := by rw [hRz]; rfl
            have hrm : ((ra.size : Int) != 8) = false := by rw [hRa]; rfl
            clear hRz hRa
            go_wp2_with (go_at_call 17; refine (num_any _ _).mono ?_; rintro e w' ⟨rfl, rfl⟩)
            go_ret
            exact ⟨rfl, unhide HB3⟩
          · go_wp2_with (go_at_call 17; refine (num_any _ _).mono ?_; rintro e w' ⟨rfl, rfl⟩)
            go_ret
            exact ⟨rfl, unhide HB3⟩
        · rcases hRs with ⟨rfl, hRz, hRa⟩ | rfl
          · have hrn : ((rz.length : Int) != 8) = false := by rw [hRz]; rfl
            have hrm : ((ra.size : Int) != 8) = false := by rw [hRa]; rfl
            clear hRz hRa
            go_wp2_with (go_at_call 17; refine (num_any _ _).mono ?_; rintro e w' ⟨rfl, rfl⟩)
            go_ret
            exact ⟨rfl, unhide HB3⟩
          · go_wp2_with (go_at_call 17; refine (num_any _ _).mono ?_; rintro e w' ⟨rfl, rfl⟩)
            go_ret
            exact ⟨rfl, unhide HB3⟩
    · have hp8' : (p.size : Int) ≤ 8 := by omega
      go_wp2_with fail
      refine (Fill_any s _ (Z.take 8) (p.size : Int) _ (unhide HU) (unhide HYL)).mono ?_
      rintro e w2 ⟨rfl, hb2⟩
      have HB2 := hide ((unhide HB1).trans (hb2.mono (unhide HB1).size))
      clear hb2
      go_wp2_with fail
      refine (Read_any s p _).mono ?_
      rintro e w3 ⟨⟨x, rfl, hx⟩, hb3⟩
      have HB3 := hide ((unhide HB2).trans (hb3.mono (unhide HB2).size))
      obtain ⟨xa, xcap, rfl, hx1, hx2, hx3⟩ := hx
      clear hx1 hx2 hx3 hb3
      by_cases hve : vE s ≠ 0
      · have hF := pk_eta _ (show fillOut s (Z.take 8) (p.size : Int) = (noBytes, vE s, vP s) by rw [fillOut, if_pos hve])
        have hR := rd_eta _ (show readOut s p = ([], noBytes, vE s, vP s) by rw [readOut, if_neg (by omega), if_pos hve])
        rw [hF.1, hF.2.1, hF.2.2, hR.1, hR.2.1, hR.2.2.1, hR.2.2.2, noBytes]
        have hve2 : (vE s != 0) = true := by simpa using hve
        have hee : (vE s == vE s) = true := by simp
        have hpp : (vP s == vP s) = true := by simp
        clear hF hR hve HU
        generalize vE s = ve at *
        generalize vP s = vp at *
        go_wp2_with (go_at_call 17; refine (num_any _ _).mono ?_; rintro e w' ⟨rfl, rfl⟩)
        go_ret
        exact ⟨rfl, unhide HB3⟩
      · have hve0 : vE s = 0 := by omega
        obtain ⟨fa, fb, fc, hF0, hFs⟩ := fill_safe (Z := (Z.take 8)) (sz := (p.size : Int)) hve0 (by omega) (by omega) (by rw [List.length_take]; omega)
        obtain ⟨rz, ra, rb, rc, hR0, hRs⟩ := read_safe (p := p) hve0 (by omega)
        have hF := pk_eta _ hF0
        have hR := rd_eta _ hR0
        rw [hF.1, hF.2.1, hF.2.2, hR.1, hR.2.1, hR.2.2.1, hR.2.2.2]
        have hve2 : (vE s != 0) = false := by rw [hve0]; rfl
        clear hF hR hF0 hR0 HU
        rcases hFs with ⟨rfl, hFs⟩ | rfl
        · have hfn : ((fa.size : Int) != (p.size : Int)) = false := by rw [hFs]; simp
          clear hFs
          rcases hRs with ⟨rfl, hRz, hRa⟩ | rfl
          · have hrn : ((rz.length : Int) != 8) = false := by rw [hRz]; rfl
            have hrm : ((ra.size : Int) != 8) = false := by rw [hRa]; rfl
            clear hRz hRa
            go_wp2_with (go_at_call 17; refine (num_any _ _).mono ?_; rintro e w' ⟨rfl, rfl⟩)
            go_ret
            exact ⟨rfl, unhide HB3⟩
          · go_wp2_with (go_at_call 17; refine (num_any _ _).mono ?_; rintro e w' ⟨rfl, rfl⟩)
            go_ret
            exact ⟨rfl, unhide HB3⟩
        · rcases hRs with ⟨rfl, hRz, hRa⟩ | rfl
          · have hrn : ((rz.length : Int) != 8) = false := by rw [hRz]; rfl
            have hrm : ((ra.size : Int) != 8) = false := by rw [hRa]; rfl
            clear hRz hRa
            go_wp2_with (go_at_call 17; refine (num_any _ _).mono ?_; rintro e w' ⟨rfl, rfl⟩)
            go_ret
            exact ⟨rfl, unhide HB3⟩
          · go_wp2_with (go_at_call 17; refine (num_any _ _).mono ?_; rintro e w' ⟨rfl, rfl⟩)
            go_ret
            exact ⟨rfl, unhide HB3⟩

end Go.Proofs.Ytoihlnjcgopdlaa

namespace Go.Proofs.Ytoihlnjcgopdlaa
open Go.RowKit

theorem place_inj {s : Sg} {i j : Int} (h : place s.st s.ln s.od i = place s.st s.ln s.od j) : i = j := by
  unfold place at h
  split at h
  · omega
  · have h2 : mir (mir (mir s.st + s.ln - 1 - i)) = mir (mir (mir s.st + s.ln - 1 - j)) := by rw [h]
    rw [mir_mir, mir_mir] at h2
    omega

theorem active_meet {a b c : Int} (ha : activeB a c = true) (hb : activeB b c = true) : meetB a b = true := by
  unfold activeB at ha hb
  unfold meetB
  cases h1 : isDigB a with
  | false => simp
  | true =>
    cases h2 : isDigB b with
    | false => simp
    | true =>
      rw [h1] at ha
      rw [h2] at hb
      simp at ha hb
      have : a = b := by omega
      simp [this]

theorem errOf_share {L E : List Sg} {s : Sg} {sz : Int} (h : errOf L E s sz = 0) : anyIx (fun k => shareB (sgAt E k) s && meetB (sgAt E k).rl s.rl) E.length = false := by
  cases e : anyIx (fun k => shareB (sgAt E k) s && meetB (sgAt E k).rl s.rl) E.length with
  | false => rfl
  | true =>
    exfalso
    rw [errOf, e] at h
    split at h
    · omega
    · split at h
      · omega
      · split at h
        · omega
        · split at h
          · omega
          · simp at h

/-- Nothing is wrong with any of these signals. -/
def Sound (L : List Sg) (sz : Int) : Prop := ∀ j, j < L.length → errAt L sz j = 0

theorem apart {L : List Sg} {sz c : Int} (h : Sound L sz) {i k : Nat} (hk : k < L.length) (hik : i < k) (ai : activeB (sgAt L i).rl c = true) (ak : activeB (sgAt L k).rl c = true)
    (a b : Nat) (ha : a < (sgAt L i).ln.toNat) (hb : b < (sgAt L k).ln.toNat) : place (sgAt L i).st (sgAt L i).ln (sgAt L i).od a ≠ place (sgAt L k).st (sgAt L k).ln (sgAt L k).od b := by
  intro he
  have h1 := errOf_share (h k hk)
  have h2 : anyIx (fun j => shareB (sgAt (L.take k) j) (sgAt L k) && meetB (sgAt (L.take k) j).rl (sgAt L k).rl) (L.take k).length = true := by
    rw [anyIx_true]
    refine ⟨i, by simp; omega, ?_⟩
    rw [sgAt_take L k i hik, active_meet ai ak, Bool.and_true, shareB, anyIx_true]
    refine ⟨a, ha, ?_⟩
    rw [anyIx_true]
    exact ⟨b, hb, by simpa using he⟩
  rw [h2] at h1
  cases h1

theorem lay_test (st ln od v : Int) (n q : Nat) : (layTo st ln od v n).testBit q = true ↔ ∃ j, j < n ∧ bitv v j = 1 ∧ (place st ln od j).toNat = q := by
  induction n with
  | zero => simp [layTo]
  | succ n ih =>
    rw [layTo, Nat.testBit_or, Bool.or_eq_true, ih]
    have hb := bitv_lt v n
    constructor
    · rintro (⟨j, hj, h1, h2⟩ | h)
      · exact ⟨j, by omega, h1, h2⟩
      · obtain e | e : bitv v n = 0 ∨ bitv v n = 1 := by omega
        · rw [e] at h; simp at h
        · rw [e, Nat.one_mul, Nat.testBit_two_pow] at h
          exact ⟨n, by omega, e, by simpa using h⟩
    · rintro ⟨j, hj, h1, h2⟩
      by_cases e : j = n
      · subst e
        right
        rw [h1, Nat.one_mul, Nat.testBit_two_pow]
        simpa using h2
      · exact .inl ⟨j, by omega, h1, h2⟩

theorem bits_test (L : List Sg) (Z : List Int) (c : Int) (n q : Nat) : (bitsTo L Z c n).testBit q = true ↔ ∃ k, k < n ∧ activeB (sgAt L k).rl c = true ∧ ∃ j, j < (sgAt L k).ln.toNat ∧ bitv (zAt Z k) j = 1 ∧ (place (sgAt L k).st (sgAt L k).ln (sgAt L k).od j).toNat = q := by
  induction n with
  | zero => simp [bitsTo]
  | succ n ih =>
    rw [bitsTo]
    constructor
    · intro h
      split at h
      · rename_i ha
        rw [Nat.testBit_or, Bool.or_eq_true, ih, lay_test] at h
        rcases h with ⟨k, hk, h⟩ | h
        · exact ⟨k, by omega, h⟩
        · exact ⟨n, by omega, ha, h⟩
      · obtain ⟨k, hk, h⟩ := ih.1 h
        exact ⟨k, by omega, h⟩
    · rintro ⟨k, hk, ha, h⟩
      by_cases e : k = n
      · subst e
        rw [if_pos ha, Nat.testBit_or, Bool.or_eq_true, lay_test]
        exact .inr h
      · have := ih.2 ⟨k, by omega, ha, h⟩
        split
        · rw [Nat.testBit_or, this]; rfl
        · exact this

/-- Each bit of an active signal is laid by it alone. -/
theorem bit_own {L : List Sg} {Z : List Int} {sz c : Int} (hs : Sound L sz) (hg : Good L) {k : Nat} (hk : k < L.length) (ak : activeB (sgAt L k).rl c = true) {j : Nat} (hj : j < (sgAt L k).ln.toNat) :
    bitN (bitsTo L Z c L.length) (place (sgAt L k).st (sgAt L k).ln (sgAt L k).od j).toNat = bitv (zAt Z k) j := by
  have hb := bitv_lt (zAt Z k) j
  rw [bitN_test]
  cases ht : (bitsTo L Z c L.length).testBit (place (sgAt L k).st (sgAt L k).ln (sgAt L k).od j).toNat with
  | true =>
    rw [bits_test] at ht
    obtain ⟨i, hi, ai, a, ha, hv, hp⟩ := ht
    have oki := (hg.2 i hi).1
    have okk := (hg.2 k hk).1
    have p1 := place_lo (sgAt L i).st (sgAt L i).ln (sgAt L i).od a oki.st0 (by omega) (by omega)
    have p2 := place_lo (sgAt L k).st (sgAt L k).ln (sgAt L k).od j okk.st0 (by omega) (by omega)
    have hp' : place (sgAt L i).st (sgAt L i).ln (sgAt L i).od a = place (sgAt L k).st (sgAt L k).ln (sgAt L k).od j := by omega
    rcases Nat.lt_trichotomy i k with hlt | rfl | hlt
    · exact absurd hp' (apart hs hk hlt ai ak a j ha hj)
    · have := place_inj hp'
      have : a = j := by omega
      subst this
      rw [hv]; rfl
    · exact absurd hp'.symm (apart hs hi hlt ak ai j a hj ha)
  | false =>
    have : ¬ bitv (zAt Z k) j = 1 := by
      intro h1
      have h2 := (bits_test L Z c L.length (place (sgAt L k).st (sgAt L k).ln (sgAt L k).od j).toNat).2 ⟨k, hk, ak, j, hj, h1, rfl⟩
      rw [ht] at h2
      cases h2
    simp only [Bool.false_eq_true, if_false]
    omega

theorem heldTo_mod (st ln od : Int) (N x k : Nat) (h : ∀ j, j < k → bitN N (place st ln od j).toNat = x / 2 ^ j % 2) : heldTo st ln od N k = x % 2 ^ k := by
  induction k with
  | zero => simp [heldTo, Nat.mod_one]
  | succ k ih =>
    rw [heldTo, ih (fun j hj => h j (by omega)), h k (by omega), Nat.mod_pow_succ, Nat.mul_comm]

theorem heldV_own {st ln od kd v : Int} {N : Nat} (h0 : 1 ≤ ln) (h1 : ln ≤ 32) (hf : fitsB kd ln v = true) (h : ∀ j, j < ln.toNat → bitN N (place st ln od j).toNat = bitv v j) : heldV st ln od kd N = v := by
  have hb := fitsB_bounds hf
  have hn := fun (j : Nat) (hj : (j : Int) < ln) => natural_bit ln v j h0 h1 hj hb.1 hb.2
  obtain ⟨n0, n1, _⟩ := hn 0 (by omega)
  have hpw := pow_half ln h0
  have hpn : ((2 ^ ln.toNat : Nat) : Int) = 2 * half ln := by rw [← hpw]; simp
  have e : (heldTo st ln od N ln.toNat : Int) = natural ln v := by
    have h2 := heldTo_mod st ln od N (natural ln v).toNat ln.toNat (fun j hj => by
      rw [h j hj]
      have h3 := (hn j (by omega)).2.2
      have e3 : natural ln v = ((natural ln v).toNat : Int) := by omega
      rw [e3] at h3
      have e4 : (((natural ln v).toNat : Nat) : Int) / 2 ^ j % 2 = (((natural ln v).toNat / 2 ^ j % 2 : Nat) : Int) := by simp
      rw [e4] at h3
      omega)
    rw [h2, Nat.mod_eq_of_lt (by omega)]
    omega
  unfold heldV
  rw [e]
  unfold fitsB at hf
  have hp := half_pos ln
  by_cases hv : v < 0
  · have en : natural ln v = v + 2 * half ln := by rw [natural, if_pos hv]
    rw [en]
    split at hf
    · rename_i hk
      simp at hf
      rw [if_pos ⟨hk, by omega⟩]; omega
    · simp at hf; omega
  · have en : natural ln v = v := by rw [natural, if_neg hv]
    rw [en]
    split at hf
    · simp at hf
      rw [if_neg (fun hx => by have := hx.2; omega)]
    · rename_i hk
      rw [if_neg (fun hx => hk hx.1)]

/-- What the payload's text says as a number again. -/
theorem pay_back (B n : Nat) (q : Nat) (hq : q < 8 * n) : bitN (payTo (payB B n) (payB B n).size) q = bitN B q := by
  have hsz : (payB B n).size = n := by rw [payB, strOfNums_size, bytesL_len]
  have hq8 : q / 8 < n := by omega
  rw [hsz, payTo_bit _ _ _ hq8]
  have hb : (bt (payB B n) (q / 8)).toNat = byteOf B (q / 8) := by
    have hl : q / 8 < (payB B n).size := by omega
    rw [← bt_of hl, Int.toNat_natCast]
    have : (payB B n)[q / 8] = UInt8.ofNat ((byteOf B (q / 8) : Int)).toNat := by
      simp [payB, strOfNums, bytesL, ByteArray.getElem_eq_getElem_data]
    rw [this, Int.toNat_natCast, UInt8.toNat_ofNat', Nat.mod_eq_of_lt (byteOf_lt B _)]
  rw [hb]
  have e : byteOf B (q / 8) / 2 ^ (q % 8) % 2 = bitN (byteOf B (q / 8)) (q % 8) := rfl
  rw [e, bitN_test, bitN_test, byteOf_bit, show 8 * (q / 8) + q % 8 = q by omega]
  have : q % 8 < 8 := by omega
  simp [this]

/-- P6, a signal: what is held of what was laid. -/
theorem held_back {L : List Sg} {Z : List Int} {sz c : Int} (hs : Sound L sz) (hg : Good L) (hw : Within L sz) (h0 : 0 ≤ sz) {k : Nat} (hk : k < L.length) (ak : activeB (sgAt L k).rl c = true)
    (hf : fitsB (sgAt L k).kd (sgAt L k).ln (zAt Z k) = true) : held (sgAt L k) (payTo (payB (bitsTo L Z c L.length) sz.toNat) (payB (bitsTo L Z c L.length) sz.toNat).size) = zAt Z k := by
  have ok := (hg.2 k hk).1
  refine heldV_own ok.ln0 ok.ln1 hf (fun j hj => ?_)
  have p1 := place_lo (sgAt L k).st (sgAt L k).ln (sgAt L k).od j ok.st0 (by omega) (by omega)
  have p2 := hw k hk j (by omega)
  rw [pay_back _ _ _ (by omega)]
  exact bit_own hs hg hk ak hj

theorem mux_active {L : List Sg} {x : Nat} (h : (sgAt L x).rl = 77) (c : Int) : activeB (sgAt L x).rl c = true := by
  rw [h]; rfl

theorem choice_back {L : List Sg} {Z : List Int} {sz : Int} (hs : Sound L sz) (hg : Good L) (hw : Within L sz) (h0 : 0 ≤ sz) (hu : firstUn L Z (choiceOf L Z) < 0) :
    choiceN L (payTo (payB (bitsTo L Z (choiceOf L Z) L.length) sz.toNat) (payB (bitsTo L Z (choiceOf L Z) L.length) sz.toNat).size) = choiceOf L Z := by
  rcases mux_range L with hmx | ⟨x, hx, hmx, hr⟩
  · rw [choiceN, choiceOf, hmx]; rfl
  · have ax := mux_active hr (choiceOf L Z)
    have e : choiceOf L Z = zAt Z x := by rw [choiceOf, hmx, if_pos (by omega), Int.toNat_natCast]
    have h2 := held_back hs hg hw h0 hx ax (firstUn_none hu x hx ax)
    rw [choiceN, hmx, if_pos (by omega), Int.toNat_natCast, h2, e]

/-- The values of the active signals, 0 for the others. -/
def backAt (L : List Sg) (Z : List Int) (k : Nat) : Int := if activeB (sgAt L k).rl (choiceOf L Z) then zAt Z k else 0

theorem vals_back {L : List Sg} {Z : List Int} {sz : Int} (hs : Sound L sz) (hg : Good L) (hw : Within L sz) (h0 : 0 ≤ sz) (hu : firstUn L Z (choiceOf L Z) < 0) {k : Nat} (hk : k < L.length) :
    zAt (valsL L (payTo (payB (bitsTo L Z (choiceOf L Z) L.length) sz.toNat) (payB (bitsTo L Z (choiceOf L Z) L.length) sz.toNat).size) (choiceOf L Z) L.length) k = backAt L Z k := by
  rw [zAt, valsL, List.getD_eq_getElem?_getD, List.getElem?_map, List.getElem?_range hk]
  simp only [Option.map_some, Option.getD_some, valN, backAt]
  split
  · rename_i ak
    exact held_back hs hg hw h0 hk ak (firstUn_none hu k hk ak)
  · rfl

end Go.Proofs.Ytoihlnjcgopdlaa

namespace Go.Proofs.Ytoihlnjcgopdlaa
open Go.RowKit

theorem test_toNat (N q : Nat) : (N.testBit q).toNat = bitN N q := by
  rw [bitN_test]; cases N.testBit q <;> rfl

/-- Bits i on, m of them, of x, laid at the places of a signal. -/
def laySet (st ln od : Int) (N x i : Nat) : Nat → Nat
  | 0 => N
  | m + 1 => setb (laySet st ln od N x i m) (place st ln od ((i + m : Nat) : Int)).toNat (x.testBit (i + m))

theorem laySet_add (st ln od : Int) (N x i n : Nat) : laySet st ln od (laySet st ln od N x 0 i) x i n = laySet st ln od N x 0 (i + n) := by
  induction n with
  | zero => rfl
  | succ n ih => rw [laySet, ih, ← Nat.add_assoc, laySet, Nat.zero_add]

theorem putTo_lay {st ln od : Int} {N x b i n : Nat} (hp : ∀ j, j < n → (place st ln od ((i + j : Nat) : Int)).toNat = b + j) : putTo N x b i n = laySet st ln od N x i n := by
  induction n with
  | zero => rfl
  | succ n ih => rw [putTo, laySet, ih (fun j hj => hp j (by omega)), hp n (by omega)]

theorem putTo_held {st ln od : Int} {N b i n : Nat} (hp : ∀ j, j < n → (place st ln od ((i + j : Nat) : Int)).toNat = b + j) : putTo (heldTo st ln od N i) N i b n = heldTo st ln od N (i + n) := by
  induction n with
  | zero => rfl
  | succ n ih => rw [putTo, ih (fun j hj => hp j (by omega)), setb_add (heldTo_lt _ _ _ _ _), ← hp n (by omega), test_toNat, ← Nat.add_assoc, heldTo]

theorem place_next {st ln od i : Int} (h : place st ln od i % 8 ≠ 7) : place st ln od (i + 1) = place st ln od i + 1 := by
  unfold place at h ⊢
  split
  · omega
  · rename_i e
    rw [if_neg e] at h
    unfold mir at h ⊢; omega
theorem place_run {st ln od i : Int} (j : Nat) (h : place st ln od i % 8 + j ≤ 7) : place st ln od (i + j) = place st ln od i + j := by
  induction j with
  | zero => simp
  | succ j ih =>
    have := ih (by omega)
    rw [show i + ((j + 1 : Nat) : Int) = (i + j) + 1 by omega, place_next (by omega)]
    omega

/-- A piece of a signal: its place, its first bit, its length. -/
structure Pc where
  p : Int
  i : Int
  n : Int

def pcLen (st ln od i : Int) : Int := if ln - i < 8 - place st ln od i % 8 then ln - i else 8 - place st ln od i % 8
def pcs (st ln od : Int) : Nat → Int → List Pc
  | 0, _ => []
  | f + 1, i => if i < ln then ⟨place st ln od i, i, pcLen st ln od i⟩ :: pcs st ln od f (i + pcLen st ln od i) else []
theorem pcLen_bounds {st ln od i : Int} (h : i < ln) : 1 ≤ pcLen st ln od i ∧ pcLen st ln od i ≤ ln - i ∧ place st ln od i % 8 + pcLen st ln od i ≤ 8 := by
  unfold pcLen; split <;> omega
theorem pcLen_run {st ln od i : Int} (h : i < ln) (j : Nat) (hj : (j : Int) < pcLen st ln od i) : place st ln od (i + j) = place st ln od i + j := by
  have := pcLen_bounds (st := st) (od := od) h
  exact place_run j (by omega)
theorem pcs_end {st ln od i : Int} (f : Nat) (h : ¬ i < ln) : pcs st ln od f i = [] := by
  cases f with
  | zero => rfl
  | succ f => rw [pcs, if_neg h]

def Pc.ins (op r : Int) (p : Pc) : Ins := ⟨op, r, p.p, p.i, p.n⟩
def movesL (op r st ln od : Int) : List Ins := (pcs st ln od ln.toNat 0).map (Pc.ins op r)


theorem run_puts {st ln od : Int} (h0 : 0 ≤ st) (r : Nat) (x : Nat) (N0 : Nat) (rest : List Ins) : ∀ (f : Nat) (i : Nat) (S : St), (i : Int) ≤ ln → ln - i ≤ f → low (S.reg r) = x → S.N = laySet st ln od N0 x 0 i →
    runL ((pcs st ln od f i).map (Pc.ins 80 r) ++ rest) S = runL rest { S with N := laySet st ln od N0 x 0 ln.toNat } := by
  intro f
  induction f with
  | zero =>
    intro i S h1 h2 _ hN
    have : ln.toNat = i := by omega
    rw [pcs, this, ← hN]; rfl
  | succ f ih =>
    intro i S h1 h2 hx hN
    by_cases hlt : (i : Int) < ln
    · have hb := pcLen_bounds (st := st) (od := od) hlt
      have hp0 := place_lo st ln od i h0 (by omega) hlt
      rw [pcs, if_pos hlt, List.map_cons, List.cons_append, runL_cons, Pc.ins, act_put]
      simp only [List.drop_zero, Int.toNat_natCast]
      have e : (i : Int) + pcLen st ln od i = ((i + (pcLen st ln od i).toNat : Nat) : Int) := by omega
      rw [e]
      refine (ih _ { S with N := putTo S.N (low (S.reg r)) (place st ln od i).toNat i (pcLen st ln od i).toNat } (by omega) (by omega) hx ?_).trans rfl
      simp only
      rw [hx, hN, putTo_lay, laySet_add]
      intro j hj
      have := pcLen_run (st := st) (od := od) hlt j (by omega)
      rw [show ((i + j : Nat) : Int) = (i : Int) + j by omega, this]; omega
    · have : ln.toNat = i := by omega
      rw [pcs_end _ hlt, this, ← hN]; rfl

theorem upd_upd {α : Type} (f : Nat → α) (r : Nat) (a b : α) : upd (upd f r a) r b = upd f r b := by
  funext j; simp only [upd]; split <;> rfl
theorem upd_at {α : Type} (f : Nat → α) (r : Nat) (a : α) : upd f r a r = a := by simp [upd]
theorem upd_same {α : Type} (f : Nat → α) (r : Nat) (a : α) (h : f r = a) : upd f r a = f := by
  funext j; simp only [upd]; split
  · rename_i e; subst e; exact h.symm
  · rfl

theorem low_held (st ln od : Int) (N i : Nat) (h : i ≤ 32) : low (heldTo st ln od N i : Int) = heldTo st ln od N i := by
  have h1 := heldTo_lt st ln od N i
  have h2 : 2 ^ i ≤ 2 ^ 32 := Nat.pow_le_pow_right (by omega) h
  have e : (2 : Nat) ^ 32 = 4294967296 := rfl
  unfold low; omega

theorem run_gets {st ln od : Int} (h0 : 0 ≤ st) (h32 : ln ≤ 32) (r : Nat) (rest : List Ins) (S : St) : ∀ (f : Nat) (i : Nat), (i : Int) ≤ ln → ln - i ≤ f →
    runL ((pcs st ln od f i).map (Pc.ins 71 r) ++ rest) { S with reg := upd S.reg r (heldTo st ln od S.N i : Nat) } = runL rest { S with reg := upd S.reg r (heldTo st ln od S.N ln.toNat : Nat) } := by
  intro f
  induction f with
  | zero =>
    intro i h1 h2
    have : ln.toNat = i := by omega
    rw [pcs, this]; rfl
  | succ f ih =>
    intro i h1 h2
    by_cases hlt : (i : Int) < ln
    · have hb := pcLen_bounds (st := st) (od := od) hlt
      have hp0 := place_lo st ln od i h0 (by omega) hlt
      rw [pcs, if_pos hlt, List.map_cons, List.cons_append, runL_cons, Pc.ins, act_get]
      simp only [List.drop_zero, Int.toNat_natCast, upd_at, upd_upd]
      have e : (i : Int) + pcLen st ln od i = ((i + (pcLen st ln od i).toNat : Nat) : Int) := by omega
      rw [low_held _ _ _ _ _ (by omega), putTo_held, e, ih _ (by omega) (by omega)]
      intro j hj
      have := pcLen_run (st := st) (od := od) hlt j (by omega)
      rw [show ((i + j : Nat) : Int) = (i : Int) + j by omega, this]; omega
    · have : ln.toNat = i := by omega
      rw [pcs_end _ hlt, this]; rfl

/-- The instructions for one signal, and for a message. -/
def sgnK (kd : Int) : Int := if kd = 115 then 1 else 0
def pSteps (s : Sg) (r : Int) : List Ins := ⟨82, r, 0, sgnK s.kd, s.ln⟩ :: movesL 80 r s.st s.ln s.od
def xStep (s : Sg) (r : Int) : List Ins := if s.kd = 115 then [⟨88, r, 0, 0, s.ln⟩] else []
def uSteps (s : Sg) (r : Int) : List Ins := movesL 71 r s.st s.ln s.od ++ xStep s r ++ [⟨65, r, 0, 0, 0⟩]
def ifAct (s : Sg) (mux : Int) (l : List Ins) : List Ins := if isDigB s.rl then ⟨74, mux, s.rl - 48, 0, l.length⟩ :: l else l

theorem sgnK_kd {s : Sg} (ok : s.Ok) : (if sgnK s.kd = 1 then (115 : Int) else 117) = s.kd := by
  unfold sgnK
  rcases ok.kd with h | h <;> rw [h] <;> rfl

theorem run_pSteps {s : Sg} (ok : s.Ok) (r : Nat) (S : St) (rest : List Ins) : runL (pSteps s r ++ rest) S =
    if fitsB s.kd s.ln (S.reg r) then runL rest { S with N := laySet s.st s.ln s.od S.N (low (S.reg r)) 0 s.ln.toNat } else (S, 9, r) := by
  rw [pSteps, List.cons_append, runL_cons, act_range, sgnK_kd ok, Int.toNat_natCast]
  cases fitsB s.kd s.ln (S.reg r) with
  | false => rfl
  | true =>
    have h0 := ok.ln0
    have := run_puts (st := s.st) (ln := s.ln) (od := s.od) ok.st0 r (low (S.reg r)) S.N rest s.ln.toNat 0 S (by omega) (by omega) rfl rfl
    simpa [movesL] using this

theorem ext_held {s : Sg} (ok : s.Ok) (hk : s.kd = 115) (N : Nat) : extV (heldTo s.st s.ln s.od N s.ln.toNat : Int) s.ln = held s N := by
  have h1 := heldTo_lt s.st s.ln s.od N s.ln.toNat
  have hpw := pow_half s.ln ok.ln0
  have hpn : ((2 ^ s.ln.toNat : Nat) : Int) = 2 * half s.ln := by rw [← hpw]; simp
  rw [extV, held, heldV, Int.emod_eq_of_lt (by omega) (by omega)]
  by_cases h : half s.ln ≤ (heldTo s.st s.ln s.od N s.ln.toNat : Int)
  · rw [if_pos h, if_pos ⟨hk, h⟩]
  · rw [if_neg h, if_neg (fun hx => h hx.2)]

theorem run_uSteps {s : Sg} (ok : s.Ok) (r : Nat) (S : St) (hr : S.reg r = 0) (rest : List Ins) : runL (uSteps s r ++ rest) S =
    runL rest { S with reg := upd S.reg r (held s S.N), mark := upd S.mark r true } := by
  have h0 := ok.ln0
  have h := run_gets (st := s.st) (ln := s.ln) (od := s.od) ok.st0 ok.ln1 r (xStep s r ++ (⟨65, r, 0, 0, 0⟩ :: rest)) S s.ln.toNat 0 (by omega) (by omega)
  have e : { S with reg := upd S.reg r (heldTo s.st s.ln s.od S.N 0 : Nat) } = S := by
    rw [upd_same _ _ _ (by simpa [heldTo] using hr)]
  rw [e] at h
  have e2 : uSteps s r ++ rest = List.map (Pc.ins 71 r) (pcs s.st s.ln s.od s.ln.toNat 0) ++ (xStep s r ++ (⟨65, r, 0, 0, 0⟩ :: rest)) := by simp [uSteps, movesL]
  rw [e2]
  simp only [Int.natCast_zero] at h
  rw [h]
  rcases ok.kd with hk | hk
  · rw [xStep, if_neg (by omega), List.nil_append, runL_cons, act_mark]
    simp only [List.drop_zero, Int.toNat_natCast]
    have : held s S.N = (heldTo s.st s.ln s.od S.N s.ln.toNat : Int) := by rw [held, heldV, if_neg (fun hx => by omega)]
    rw [this]
  · rw [xStep, if_pos hk, List.cons_append, List.nil_append, runL_cons, act_x]
    simp only [List.drop_zero, Int.toNat_natCast, upd_at, upd_upd]
    rw [runL_cons, act_mark, ext_held ok hk]
    simp only [List.drop_zero, Int.toNat_natCast]

theorem run_ifAct {s : Sg} {mux c : Int} {l rest : List Ins} {S : St} (hm : isDigB s.rl = true → S.reg mux.toNat = c) : runL (ifAct s mux l ++ rest) S = if activeB s.rl c then runL (l ++ rest) S else runL rest S := by
  unfold ifAct
  cases hd : isDigB s.rl with
  | false => rw [activeB, hd]; rfl
  | true =>
    simp only [if_true]
    rw [List.cons_append, runL_cons, act_jump, hm hd, activeB, hd]
    simp only [Int.toNat_natCast]
    by_cases e : c = s.rl - 48
    · rw [if_pos e]; simp [e]
    · rw [if_neg e, List.drop_left]
      have : ¬ s.rl - 48 = c := fun h => e h.symm
      simp [this]

theorem laySet_test {s : Sg} (ok : s.Ok) (N x : Nat) (m : Nat) (hm : (m : Int) ≤ s.ln) (q : Nat) : (laySet s.st s.ln s.od N x 0 m).testBit q = true ↔
    (∃ j, j < m ∧ (place s.st s.ln s.od j).toNat = q ∧ x.testBit j = true) ∨ ((∀ j : Nat, j < m → (place s.st s.ln s.od j).toNat ≠ q) ∧ N.testBit q = true) := by
  induction m with
  | zero => simp [laySet]
  | succ m ih =>
    rw [laySet, setb_test, Nat.zero_add]
    by_cases e : q = (place s.st s.ln s.od m).toNat
    · rw [if_pos e]
      constructor
      · intro h; exact .inl ⟨m, by omega, e.symm, h⟩
      · rintro (⟨j, hj, hp, hx⟩ | ⟨h, _⟩)
        · have p1 := place_lo s.st s.ln s.od j ok.st0 (by omega) (by omega)
          have p2 := place_lo s.st s.ln s.od m ok.st0 (by omega) (by omega)
          have := place_inj (s := s) (i := j) (j := m) (by omega)
          have : j = m := by omega
          subst this; exact hx
        · exact absurd e.symm (h m (by omega))
    · rw [if_neg e, ih (by omega)]
      constructor
      · rintro (⟨j, hj, hp, hx⟩ | ⟨h, hN⟩)
        · exact .inl ⟨j, by omega, hp, hx⟩
        · refine .inr ⟨fun j hj => ?_, hN⟩
          by_cases ej : j = m
          · subst ej; exact fun h => e h.symm
          · exact h j (by omega)
      · rintro (⟨j, hj, hp, hx⟩ | ⟨h, hN⟩)
        · refine .inl ⟨j, ?_, hp, hx⟩
          have : j ≠ m := fun ej => by subst ej; exact e hp.symm
          omega
        · exact .inr ⟨fun j hj => h j (by omega), hN⟩

theorem low_bit (v : Int) (j : Nat) (hj : j < 32) : (low v).testBit j = true ↔ bitv v j = 1 := by
  have e1 : bitv v j = bitN (low v) j := by
    unfold bitv bitN low
    have a : v % 18446744073709551616 = (v % 4294967296) + 4294967296 * ((v % 18446744073709551616) / 4294967296) := by omega
    rw [a]
    have b : (4294967296 : Int) = 2 ^ (j + 1) * 2 ^ (31 - j) := by rw [← Int.pow_add, show j + 1 + (31 - j) = 32 by omega]; rfl
    have c : (4294967296 : Int) * ((v % 18446744073709551616) / 4294967296) = 2 ^ (j + 1) * (2 ^ (31 - j) * ((v % 18446744073709551616) / 4294967296)) := by rw [← Int.mul_assoc, ← b]
    rw [c, div_shift]
    generalize 2 ^ (31 - j) * ((v % 18446744073709551616) / 4294967296) = y
    have d : v % 4294967296 = ((v % 4294967296).toNat : Int) := by omega
    have e : (((v % 4294967296).toNat : Nat) : Int) / 2 ^ j = (((v % 4294967296).toNat / 2 ^ j : Nat) : Int) := by simp
    rw [d, e, Int.toNat_natCast]
    generalize (v % 4294967296).toNat / 2 ^ j = z
    omega
  rw [e1, bitN_test]
  cases (low v).testBit j <;> simp

theorem laySet_or {s : Sg} (ok : s.Ok) (N : Nat) (v : Int) (hN : ∀ j : Nat, (j : Int) < s.ln → N.testBit (place s.st s.ln s.od j).toNat = false) :
    laySet s.st s.ln s.od N (low v) 0 s.ln.toNat = N ||| layTo s.st s.ln s.od v s.ln.toNat := by
  have h0 := ok.ln0
  have h1 := ok.ln1
  apply Nat.eq_of_testBit_eq
  intro q
  rw [Bool.eq_iff_iff, laySet_test ok _ _ _ (by omega), Nat.testBit_or, Bool.or_eq_true, lay_test]
  constructor
  · rintro (⟨j, hj, hp, hx⟩ | ⟨_, h⟩)
    · exact .inr ⟨j, hj, (low_bit v j (by omega)).1 hx, hp⟩
    · exact .inl h
  · rintro (h | ⟨j, hj, hx, hp⟩)
    · refine .inr ⟨fun j hj e => ?_, h⟩
      have := hN j (by omega)
      rw [e, h] at this; cases this
    · exact .inl ⟨j, hj, hp, (low_bit v j (by omega)).2 hx⟩

end Go.Proofs.Ytoihlnjcgopdlaa

namespace Go.Proofs.Ytoihlnjcgopdlaa
open Go.RowKit

def sigP (L : List Sg) (k : Nat) : List Ins := ifAct (sgAt L k) (muxOf L) (pSteps (sgAt L k) k)
def packTo (L : List Sg) : Nat → List Ins
  | 0 => []
  | k + 1 => packTo L k ++ sigP L k
def headU (L : List Sg) : List Ins := if 0 ≤ muxOf L then uSteps (sgAt L (muxOf L).toNat) (muxOf L) else []
def sigU (L : List Sg) (k : Nat) : List Ins := if (k : Int) = muxOf L then [] else ifAct (sgAt L k) (muxOf L) (uSteps (sgAt L k) k)
def unpackTo (L : List Sg) : Nat → List Ins
  | 0 => headU L
  | k + 1 => unpackTo L k ++ sigU L k

theorem errOf_dig {L E : List Sg} {s : Sg} {sz : Int} (h : errOf L E s sz = 0) (hd : isDigB s.rl = true) : 0 ≤ muxOf L := by
  rw [errOf] at h
  split at h
  · omega
  · split at h
    · omega
    · split at h
      · omega
      · rename_i h3
        have : ¬ muxOf L < 0 := fun hx => h3 ⟨hd, hx⟩
        omega
theorem sound_mux {L : List Sg} {sz : Int} (hs : Sound L sz) {k : Nat} (hk : k < L.length) (hd : isDigB (sgAt L k).rl = true) : 0 ≤ muxOf L := errOf_dig (hs k hk) hd

theorem bits_apart {L : List Sg} {Z : List Int} {sz c : Int} (hs : Sound L sz) (hg : Good L) {k : Nat} (hk : k < L.length) (ak : activeB (sgAt L k).rl c = true) (j : Nat) (hj : (j : Int) < (sgAt L k).ln) :
    (bitsTo L Z c k).testBit (place (sgAt L k).st (sgAt L k).ln (sgAt L k).od j).toNat = false := by
  cases ht : (bitsTo L Z c k).testBit (place (sgAt L k).st (sgAt L k).ln (sgAt L k).od j).toNat with
  | false => rfl
  | true =>
    exfalso
    rw [bits_test] at ht
    obtain ⟨i, hi, ai, a, ha, hv, hp⟩ := ht
    have oki := (hg.2 i (by omega)).1
    have okk := (hg.2 k hk).1
    have p1 := place_lo (sgAt L i).st (sgAt L i).ln (sgAt L i).od a oki.st0 (by omega) (by omega)
    have p2 := place_lo (sgAt L k).st (sgAt L k).ln (sgAt L k).od j okk.st0 (by omega) (by omega)
    exact absurd (by omega) (apart hs hk hi ai ak a j ha (by omega))

theorem run_packTo {L : List Sg} {Z : List Int} {sz : Int} (hs : Sound L sz) (hg : Good L) (S0 : St) (hr : S0.reg = zAt Z) (h0 : S0.N = 0) : ∀ (k : Nat) (rest : List Ins), k ≤ L.length → (∀ j, j < k → unfit L Z (choiceOf L Z) j = false) →
    runL (packTo L k ++ rest) S0 = runL rest { S0 with N := bitsTo L Z (choiceOf L Z) k } := by
  intro k
  induction k with
  | zero => intro rest _ _; rw [packTo, bitsTo, ← h0]; rfl
  | succ k ih =>
    intro rest hk hno
    rw [packTo, List.append_assoc, ih _ (by omega) (fun j hj => hno j (by omega)), sigP]
    have hu := hno k (by omega)
    have ok := (hg.2 k (by omega)).1
    rw [run_ifAct (c := choiceOf L Z) (fun hd => by
      have := sound_mux hs (by omega) hd
      simp only
      rw [hr, choiceOf, if_pos this])]
    cases ha : activeB (sgAt L k).rl (choiceOf L Z) with
    | false => rw [bits_stay ha]; rfl
    | true =>
      rw [unfit, ha] at hu
      have hf : fitsB (sgAt L k).kd (sgAt L k).ln (zAt Z k) = true := by simpa using hu
      simp only [if_true]
      rw [run_pSteps ok]
      simp only [hr, hf, if_true]
      rw [laySet_or ok _ _ (fun j hj => bits_apart hs hg (by omega) ha j hj), bitsTo, if_pos ha]
      rfl

theorem packTo_split (L : List Sg) (u : Nat) : ∀ n, u < n → ∃ tl, packTo L n = packTo L u ++ (sigP L u ++ tl) := by
  intro n
  induction n with
  | zero => intro h; omega
  | succ n ih =>
    intro h
    by_cases e : u = n
    · subst e; exact ⟨[], by simp [packTo]⟩
    · obtain ⟨tl, ht⟩ := ih (by omega)
      exact ⟨tl ++ sigP L n, by rw [packTo, ht]; simp⟩

/-- What the first code does. -/
theorem run_pack {L : List Sg} {Z : List Int} {sz : Int} (hs : Sound L sz) (hg : Good L) (S0 : St) (hr : S0.reg = zAt Z) (h0 : S0.N = 0) :
    (0 ≤ firstUn L Z (choiceOf L Z) → (runL (packTo L L.length) S0).2 = (9, firstUn L Z (choiceOf L Z))) ∧
    (firstUn L Z (choiceOf L Z) < 0 → runL (packTo L L.length) S0 = ({ S0 with N := bitsTo L Z (choiceOf L Z) L.length }, 0, 0)) := by
  rcases findIx_cases (unfit L Z (choiceOf L Z)) L.length with ⟨h, hno⟩ | ⟨u, hu, h, h2⟩
  · constructor
    · intro h3; rw [firstUn, h] at h3; omega
    · intro _
      have := run_packTo hs hg S0 hr h0 L.length [] (Nat.le_refl _) hno
      rw [List.append_nil, runL_nil] at this
      exact this
  · constructor
    · intro _
      have hno : ∀ j, j < u → unfit L Z (choiceOf L Z) j = false := by
        intro j hj
        have hix : firstIx (unfit L Z (choiceOf L Z)) L.length = u := by
          unfold findIx at h
          split at h <;> omega
        exact firstIx_no _ L.length j (by omega)
      obtain ⟨tl, ht⟩ := packTo_split L u L.length hu
      rw [ht, run_packTo hs hg S0 hr h0 u _ (by omega) hno, sigP, firstUn, h]
      have ok := (hg.2 u hu).1
      rw [run_ifAct (c := choiceOf L Z) (fun hd => by
        have := sound_mux hs hu hd
        simp only
        rw [hr, choiceOf, if_pos this])]
      rw [unfit, Bool.and_eq_true] at h2
      rw [if_pos h2.1, run_pSteps ok]
      have hf : fitsB (sgAt L u).kd (sgAt L u).ln (zAt Z u) = false := by simpa using h2.2
      simp only [hr, hf, Bool.false_eq_true, if_false]
    · intro h3; rw [firstUn, h] at h3; omega

/-- Has the code of the first k signals (and the multiplexor's, ahead of them) read this one? -/
def onU (L : List Sg) (N k j : Nat) : Bool := decide (j < L.length) && (decide (j < k) || decide ((j : Int) = muxOf L)) && activeB (sgAt L j).rl (choiceN L N)
def stU (L : List Sg) (N k : Nat) : St := ⟨fun j => if onU L N k j then held (sgAt L j) N else 0, onU L N k, N⟩

theorem run_unpackTo {L : List Sg} {sz : Int} (hs : Sound L sz) (hg : Good L) (N : Nat) : ∀ (k : Nat) (rest : List Ins), k ≤ L.length →
    runL (unpackTo L k ++ rest) ⟨fun _ => 0, fun _ => false, N⟩ = runL rest (stU L N k) := by
  intro k
  induction k with
  | zero =>
    intro rest _
    rw [unpackTo, headU]
    rcases mux_range L with hmx | ⟨x, hx, hmx, hrl⟩
    · rw [if_neg (by omega)]
      have : stU L N 0 = ⟨fun _ => 0, fun _ => false, N⟩ := by
        have h1 : ∀ j, onU L N 0 j = false := by
          intro j
          have : ¬ (j : Int) = muxOf L := by omega
          simp [onU, this]
        rw [stU]
        simp only [h1, Bool.false_eq_true, if_false]
        congr 1
        funext j; exact h1 j
      rw [this]; rfl
    · rw [if_pos (by omega), hmx, Int.toNat_natCast, run_uSteps (hg.2 x hx).1 x _ rfl]
      have h1 : ∀ j, onU L N 0 j = decide (j = x) := by
        intro j
        by_cases e : j = x
        · subst e
          have := mux_active hrl (choiceN L N)
          simp [onU, hx, hmx, this]
        · have : ¬ (j : Int) = x := by omega
          simp [onU, hmx, this, e]
      have : stU L N 0 = { reg := upd (fun _ => 0) x (held (sgAt L x) N), mark := upd (fun _ => false) x true, N := N } := by
        rw [stU]
        congr 1
        · funext j
          rw [h1]
          by_cases e : j = x
          · simp [upd, e]
          · simp [upd, e]
        · funext j
          rw [h1]
          by_cases e : j = x
          · simp [upd, e]
          · simp [upd, e]
      rw [this]
  | succ k ih =>
    intro rest hk
    rw [unpackTo, List.append_assoc, ih _ (by omega), sigU]
    by_cases e : (k : Int) = muxOf L
    · rw [if_pos e, List.nil_append]
      have h1 : onU L N (k + 1) = onU L N k := by
        funext j
        by_cases ej : j = k
        · subst ej; simp [onU, e]
        · have : (j < k + 1) ↔ j < k := by omega
          simp [onU, this]
      rw [stU, stU, h1]
    · rw [if_neg e]
      have ok := (hg.2 k (by omega)).1
      have hoff : onU L N k k = false := by simp [onU, e]
      have h1 : ∀ j, j ≠ k → onU L N (k + 1) j = onU L N k j := by
        intro j hj
        have : (j < k + 1) ↔ j < k := by omega
        simp [onU, this]
      have h2 : onU L N (k + 1) k = activeB (sgAt L k).rl (choiceN L N) := by simp [onU, show k < L.length by omega]
      rw [run_ifAct (c := choiceN L N) (fun hd => by
        have hm := sound_mux hs (show k < L.length by omega) hd
        rcases mux_range L with hmx | ⟨x, hx, hmx, hrl⟩
        · omega
        · have := mux_active hrl (choiceN L N)
          simp only [stU]
          rw [hmx, Int.toNat_natCast]
          have hon : onU L N k x = true := by simp [onU, hx, hmx, this]
          rw [if_pos hon, choiceN, hmx, if_pos (by omega), Int.toNat_natCast])]
      cases ha : activeB (sgAt L k).rl (choiceN L N) with
      | false =>
        have : onU L N (k + 1) = onU L N k := by
          funext j
          by_cases ej : j = k
          · subst ej; rw [h2, ha, hoff]
          · exact h1 j ej
        simp only [Bool.false_eq_true, if_false]
        rw [stU, stU, this]
      | true =>
        simp only [if_true]
        rw [run_uSteps ok k _ (by simp [stU, hoff])]
        congr 1
        rw [stU, stU]
        simp only [St.mk.injEq, and_true]
        constructor
        · funext j
          by_cases ej : j = k
          · subst ej; rw [upd_at, h2, ha]; rfl
          · rw [h1 j ej]; simp [upd, ej]
        · funext j
          by_cases ej : j = k
          · subst ej; rw [upd_at, h2, ha]
          · rw [h1 j ej]; simp [upd, ej]

/-- What the second code does. -/
theorem run_unpack {L : List Sg} {sz : Int} (hs : Sound L sz) (hg : Good L) (N : Nat) : runL (unpackTo L L.length) ⟨fun _ => 0, fun _ => false, N⟩ = (stU L N L.length, 0, 0) := by
  have := run_unpackTo hs hg N L.length [] (Nat.le_refl _)
  rw [List.append_nil, runL_nil] at this
  exact this
theorem stU_reg (L : List Sg) (N j : Nat) : (stU L N L.length).reg j = if j < L.length then valN L N (choiceN L N) j else 0 := by
  simp only [stU, onU, valN]
  by_cases h : j < L.length
  · simp [h]
  · simp [h]
theorem stU_mark (L : List Sg) (N j : Nat) : (stU L N L.length).mark j = (decide (j < L.length) && activeB (sgAt L j).rl (choiceN L N)) := by
  simp only [stU, onU]
  by_cases h : j < L.length
  · simp [h]
  · simp [h]

end Go.Proofs.Ytoihlnjcgopdlaa
