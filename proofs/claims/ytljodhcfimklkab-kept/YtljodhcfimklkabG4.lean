import Derived.Test.YtljodhcfimklkabG3
namespace Go.Proofs.Ytljodhcfimklkab
open Go.RowKit

/-- What is wrong with signal i of a message. -/
def errAt (L : List Sg) (sz : Int) (i : Nat) : Int := errOf L (L.take i) (sgAt L i) sz
def errIx (L : List Sg) (sz : Int) : Nat := firstIx (fun i => decide (errAt L sz i ≠ 0)) L.length
def errSigsE (L : List Sg) (sz : Int) : Int := if errIx L sz < L.length then errAt L sz (errIx L sz) else 0
def errSigsP (L : List Sg) (sz : Int) : Int := if errIx L sz < L.length then (sgAt L (errIx L sz)).pl else 0

theorem errOf_fits {L E : List Sg} {s : Sg} {sz : Int} (hz : sz ≤ 8) (h : errOf L E s sz = 0) : s.Fits := by
  refine not_reaches (sz := sz) hz ?_
  cases e : anyIx (fun k => decide (8 * sz ≤ place s.st s.ln s.od k)) s.ln.toNat with
  | false => rfl
  | true =>
    exfalso
    rw [errOf] at h
    split at h
    · omega
    · split at h
      · omega
      · split at h
        · omega
        · first | omega | (rw [if_pos e] at h; omega)

theorem errSigs_none {L : List Sg} {sz : Int} (h : errIx L sz = L.length) : errSigsE L sz = 0 ∧ errSigsP L sz = 0 := by
  rw [errSigsE, errSigsP, h, if_neg (by omega), if_neg (by omega)]; exact ⟨rfl, rfl⟩
theorem errSigs_is {L : List Sg} {sz : Int} {k : Nat} (h : errIx L sz = k) (hk : k < L.length) : errSigsE L sz = errAt L sz k ∧ errSigsP L sz = (sgAt L k).pl := by
  rw [errSigsE, errSigsP, h, if_pos hk, if_pos hk]; exact ⟨rfl, rfl⟩

theorem sgAt_take (L : List Sg) (i k : Nat) (h : k < i) : sgAt (L.take i) k = sgAt L k := by
  simp [sgAt, h]

theorem flat_take {α : Type} (f : α → List Value) (s : Nat) (hf : ∀ a, (f a).length = s) (L : List α) (k : Nat) : (L.take k).flatMap f = (L.flatMap f).take (k * s) := by
  induction L generalizing k with
  | nil => simp
  | cons a L ih =>
    cases k with
    | zero => simp
    | succ k =>
      rw [List.take_succ_cons, List.flatMap_cons, List.flatMap_cons, ih k, List.take_append, hf, List.take_of_length_le (l := f a) (by rw [hf, Nat.succ_mul]; omega)]
      rw [show (k + 1) * s - s = k * s by rw [Nat.succ_mul]; omega]

theorem SigsAt.take {w : World} {a : Option Addr} {cap k : Nat} {L : List Sg} (h : SigsAt w (.slice a L.length cap) L) (hk : k < L.length) : SigsAt w (.slice a k cap) (L.take k) := by
  have := ownsRow_take h k (by omega) (by omega)
  unfold SigsAt
  rw [flat_take Sg.cells 7 (fun _ => rfl) L k, List.length_take, Nat.min_eq_left (by omega)]
  exact this

set_option maxHeartbeats 1000000 in
theorem checkSignals_any (pl id sz : Int) (mv : Value) (L : List Sg) (w : World) (hL : SigsAt w mv L) (hl : L.length ≤ 8)
    (hok : ∀ k, k < L.length → (sgAt L k).Ok) (hz0 : 0 ≤ sz) (hz : sz ≤ 8) :
    Calls Try.prog 51 #[.agg #[.int .i64 pl, .int .i64 id, .int .i64 sz, mv]] w
      fun e w' => e = .returned (.tuple #[.int .i64 (errSigsE L sz), .int .i64 (errSigsP L sz)]) ∧ Below w.heap.size w w' := by
  have HL := hide hL
  have HOK := hide hok
  clear hL hok
  rcases (unhide HL).opened with ⟨rfl, a, c, rfl⟩ | ⟨g, cap, rfl, hg, hcap, hcm, hc⟩
  · go_enter Try.func51, Try.ntmps51
    go_wp2
    refine wp_loop_rounds 1 ?_
    rw [rounds_succ]
    go_wp2
    go_ret2
    exact ⟨by simp [errSigsE, errSigsP], (Below.refl _ _).alloc (Nat.le_refl _) _⟩
  · have HC := hide hc
    unfold maxLen at hcm
    clear hc
    have hbox := fun (wx : World) (h : Below (w.heap.size + 1) (w.alloc (.cells #[.int .i64 pl, .int .i64 id, .int .i64 sz, .slice (some ⟨g, 0, none⟩) L.length cap] 35)) wx) => box_cell h
    go_enter Try.func51, Try.ntmps51
    go_wp2
    go_loopw [4, 5] (fun i _ wr => ∃ k : Nat, k ≤ L.length ∧ i = .int .i64 k ∧ (∀ j, j < k → decide (errAt L sz j ≠ 0) = false) ∧
      Below (w.heap.size + 1) (w.alloc (.cells #[.int .i64 pl, .int .i64 id, .int .i64 sz, .slice (some ⟨g, 0, none⟩) L.length cap] 35)) wr) (fun i _ _ => L.length - (intOf i).toNat)
    case atStart => exact ⟨0, by omega, rfl, by intro j hj; omega, Below.refl _ _⟩
    case round =>
      obtain ⟨k, hk, rfl, hno, hb⟩ := hrel
      have HN := hide hno
      clear hno
      by_cases hlt : k < L.length
      · have hc7 := fun (wx : World) (h : Below (w.heap.size + 1) (w.alloc (.cells #[.int .i64 pl, .int .i64 id, .int .i64 sz, .slice (some ⟨g, 0, none⟩) L.length cap] 35)) wx) => cells7 (unhide HC) hg (box_below h) hlt
        have hi0 : (0 : Int) ≤ (k : Int) := by omega
        have hi1 : (k : Int) < (L.length : Int) := by omega
        have hi2 : (k : Int) ≤ (L.length : Int) := by omega
        have hi3 : (k : Int) ≤ (cap : Int) := by omega
        have FOK : Hid (∀ j, j < (L.take k).length → (sgAt (L.take k) j).Ok ∧ (sgAt (L.take k) j).Fits) := hide (fun j hj => by
          rw [List.length_take] at hj
          rw [sgAt_take L k j (by omega)]
          exact ⟨unhide HOK j (by omega), errOf_fits hz (show errAt L sz j = 0 by have := unhide HN j (by omega); simpa using this)⟩)
        have HT := hide (show (L.take k).length ≤ 8 by rw [List.length_take]; omega)
        go_wp2
        refine wp_region_noPanic ?_
        refine wp_region_held_drew (S := fun w' => Below (w.heap.size + 1) (w.alloc (.cells #[.int .i64 pl, .int .i64 id, .int .i64 sz, .slice (some ⟨g, 0, none⟩) L.length cap] 35)) w') (by kernel_rfl) hb.drew (fun hHeld => ?_)
        clear hb
        refine wpAnyH_take (i := 0) (v := ?_) (at_list rfl) (by kernel_rfl) (by kernel_rfl) (by kernel_rfl) (fun _ _ _ h => h) (Or.inl ⟨by rfl, ?_⟩) (by assumption) ?_
        rotate_left
        · intro w hSw; (try dsimp only at hSw); first | (go_simp; done) | (go_simp; with_reducible rfl)
        try simp only [Act.put]
        try simp only [List.setIfInBounds_toArray]
        try simp only [List.set_cons_succ]
        try simp only [List.set_cons_zero]
        refine wpAnyH_take (i := 1) (v := ?_) (at_list rfl) (by kernel_rfl) (by kernel_rfl) (by kernel_rfl) (fun _ _ _ h => h) (Or.inl ⟨by rfl, ?_⟩) (by assumption) ?_
        rotate_left
        · intro w hSw; (try dsimp only at hSw); first | (go_simp; done) | (go_simp; with_reducible rfl)
        try simp only [Act.put]
        try simp only [List.setIfInBounds_toArray]
        try simp only [List.set_cons_succ]
        try simp only [List.set_cons_zero]
        refine wpAnyH_take (i := 2) (v := ?_) (at_list rfl) (by kernel_rfl) (by kernel_rfl) (by kernel_rfl) (fun _ _ _ h => h) (Or.inl ⟨by rfl, ?_⟩) (by assumption) ?_
        rotate_left
        · intro w hSw; (try dsimp only at hSw); first | (go_simp; done) | (go_simp; with_reducible rfl)
        try simp only [Act.put]
        try simp only [List.setIfInBounds_toArray]
        try simp only [List.set_cons_succ]
        try simp only [List.set_cons_zero]
        refine wpAnyH_take (i := 3) (v := ?_) (at_list rfl) (by kernel_rfl) (by kernel_rfl) (by kernel_rfl) (fun _ _ _ h => h) (Or.inl ⟨by rfl, ?_⟩) (by assumption) ?_
        rotate_left
        · intro w hSw; (try dsimp only at hSw); first | (go_simp; done) | (go_simp; with_reducible rfl)
        try simp only [Act.put]
        try simp only [List.setIfInBounds_toArray]
        try simp only [List.set_cons_succ]
        try simp only [List.set_cons_zero]
        refine wpAnyH_take (i := 4) (v := ?_) (at_list rfl) (by kernel_rfl) (by kernel_rfl) (by kernel_rfl) (fun _ _ _ h => h) (Or.inl ⟨by rfl, ?_⟩) (by assumption) ?_
        rotate_left
        · intro w hSw; (try dsimp only at hSw); first | (go_simp; done) | (go_simp; with_reducible rfl)
        try simp only [Act.put]
        try simp only [List.setIfInBounds_toArray]
        try simp only [List.set_cons_succ]
        try simp only [List.set_cons_zero]
        refine wpAnyH_take (i := 5) (v := ?_) (at_list rfl) (by kernel_rfl) (by kernel_rfl) (by kernel_rfl) (fun _ _ _ h => h) (Or.inl ⟨by rfl, ?_⟩) (by assumption) ?_
        rotate_left
        · intro w hSw; (try dsimp only at hSw); first | (go_simp; done) | (go_simp; with_reducible rfl)
        try simp only [Act.put]
        try simp only [List.setIfInBounds_toArray]
        try simp only [List.set_cons_succ]
        try simp only [List.set_cons_zero]
        refine wpAnyH_take (i := 6) (v := ?_) (at_list rfl) (by kernel_rfl) (by kernel_rfl) (by kernel_rfl) (fun _ _ _ h => h) (Or.inl ⟨by rfl, ?_⟩) (by assumption) ?_
        rotate_left
        · intro w hSw; (try dsimp only at hSw); first | (go_simp; done) | (go_simp; with_reducible rfl)
        try simp only [Act.put]
        try simp only [List.setIfInBounds_toArray]
        try simp only [List.set_cons_succ]
        try simp only [List.set_cons_zero]
        refine wpAnyH_take (i := 7) (v := ?_) (at_list rfl) (by kernel_rfl) (by kernel_rfl) (by kernel_rfl) (fun _ _ _ h => h) (Or.inl ⟨by rfl, ?_⟩) (by assumption) ?_
        rotate_left
        · intro w hSw; (try dsimp only at hSw); first | (go_simp; done) | (go_simp; with_reducible rfl)
        try simp only [Act.put]
        try simp only [List.setIfInBounds_toArray]
        try simp only [List.set_cons_succ]
        try simp only [List.set_cons_zero]
        refine wpAnyH_take (i := 8) (v := ?_) (at_list rfl) (by kernel_rfl) (by kernel_rfl) (by kernel_rfl) (fun _ _ _ h => h) (Or.inl ⟨by rfl, ?_⟩) (by assumption) ?_
        rotate_left
        · intro w hSw; (try dsimp only at hSw); first | (go_simp; done) | (go_simp; with_reducible rfl)
        try simp only [Act.put]
        try simp only [List.setIfInBounds_toArray]
        try simp only [List.set_cons_succ]
        try simp only [List.set_cons_zero]
        refine wpAnyH_take (i := 9) (v := ?_) (at_list rfl) (by kernel_rfl) (by kernel_rfl) (by kernel_rfl) (fun _ _ _ h => h) (Or.inl ⟨by rfl, ?_⟩) (by assumption) ?_
        rotate_left
        · intro w hSw; (try dsimp only at hSw); first | (go_simp; done) | (go_simp; with_reducible rfl)
        try simp only [Act.put]
        try simp only [List.setIfInBounds_toArray]
        try simp only [List.set_cons_succ]
        try simp only [List.set_cons_zero]
        refine wpAnyH_ready (rs := [10]) (by kernel_rfl) (by simp) ?_
        refine AllReadyH.cons (at_list rfl) (fun K hK => ?_) AllReadyH.nil
        go_simp
        refine (checkSignal_any pl id sz _ _ L (L.take k) (sgAt L k) _ (ownsRow_below (unhide HL) (box_below hHeld)) ((show SigsAt _ _ L from ownsRow_below (unhide HL) (box_below hHeld)).take hlt) hl (unhide HT) (unhide HOK k hlt) (unhide FOK) hz0 hz).mono ?_; rintro e w3 ⟨rfl, hb3⟩; dsimp only
        refine hK.out _ _ (box_next hHeld hb3) (fun hHeld => ?_)
        clear hK K
        try simp only [Act.put]
        try simp only [List.setIfInBounds_toArray]
        try simp only [List.set_cons_succ]
        try simp only [List.set_cons_zero]
        refine wpAnyH_take (i := 11) (v := ?_) (at_list rfl) (by kernel_rfl) (by kernel_rfl) (by kernel_rfl) (fun _ _ _ h => h) (Or.inl ⟨by rfl, ?_⟩) (by assumption) ?_
        rotate_left
        · intro w hSw; (try dsimp only at hSw); first | (go_simp; done) | (go_simp; with_reducible rfl)
        try simp only [Act.put]
        try simp only [List.setIfInBounds_toArray]
        try simp only [List.set_cons_succ]
        try simp only [List.set_cons_zero]
        refine wpAnyH_done (by kernel_rfl) ?_ _
        refine NoPanic.normal ?_
        clear hb3
        by_cases hz2 : errAt L sz k ≠ 0
        · have hz3 : (errOf L (L.take k) (sgAt L k) sz != 0) = true := by simpa [errAt] using hz2
          have HZ := hide hz2
          clear hz2
          go_wp2
          refine wp_region_noPanic ?_
          refine wp_region_held_drew (S := fun w' => Below (w.heap.size + 1) (w.alloc (.cells #[.int .i64 pl, .int .i64 id, .int .i64 sz, .slice (some ⟨g, 0, none⟩) L.length cap] 35)) w') (by kernel_rfl) (by exact (Below.drew (by assumption))) (fun hHeld => ?_)
          refine wpAnyH_take (i := 0) (v := ?_) (at_list rfl) (by kernel_rfl) (by kernel_rfl) (by kernel_rfl) (fun _ _ _ h => h) (Or.inl ⟨by rfl, ?_⟩) (by assumption) ?_
          rotate_left
          · intro w hSw; (try dsimp only at hSw); first | (go_simp; done) | (go_simp; with_reducible rfl)
          try simp only [Act.put]
          try simp only [List.setIfInBounds_toArray]
          try simp only [List.set_cons_succ]
          try simp only [List.set_cons_zero]
          refine wpAnyH_take (i := 1) (v := ?_) (at_list rfl) (by kernel_rfl) (by kernel_rfl) (by kernel_rfl) (fun _ _ _ h => h) (Or.inl ⟨by rfl, ?_⟩) (by assumption) ?_
          rotate_left
          · intro w hSw; (try dsimp only at hSw); first | (go_simp; done) | (go_simp; with_reducible rfl)
          try simp only [Act.put]
          try simp only [List.setIfInBounds_toArray]
          try simp only [List.set_cons_succ]
          try simp only [List.set_cons_zero]
          refine wpAnyH_take (i := 2) (v := ?_) (at_list rfl) (by kernel_rfl) (by kernel_rfl) (by kernel_rfl) (fun _ _ _ h => h) (Or.inl ⟨by rfl, ?_⟩) (by assumption) ?_
          rotate_left
          · intro w hSw; (try dsimp only at hSw); first | (go_simp; done) | (go_simp; with_reducible rfl)
          try simp only [Act.put]
          try simp only [List.setIfInBounds_toArray]
          try simp only [List.set_cons_succ]
          try simp only [List.set_cons_zero]
          refine wpAnyH_take (i := 3) (v := ?_) (at_list rfl) (by kernel_rfl) (by kernel_rfl) (by kernel_rfl) (fun _ _ _ h => h) (Or.inl ⟨by rfl, ?_⟩) (by assumption) ?_
          rotate_left
          · intro w hSw; (try dsimp only at hSw); first | (go_simp; done) | (go_simp; with_reducible rfl)
          try simp only [Act.put]
          try simp only [List.setIfInBounds_toArray]
          try simp only [List.set_cons_succ]
          try simp only [List.set_cons_zero]
          refine wpAnyH_take (i := 4) (v := ?_) (at_list rfl) (by kernel_rfl) (by kernel_rfl) (by kernel_rfl) (fun _ _ _ h => h) (Or.inl ⟨by rfl, ?_⟩) (by assumption) ?_
          rotate_left
          · intro w hSw; (try dsimp only at hSw); first | (go_simp; done) | (go_simp; with_reducible rfl)
          try simp only [Act.put]
          try simp only [List.setIfInBounds_toArray]
          try simp only [List.set_cons_succ]
          try simp only [List.set_cons_zero]
          refine wpAnyH_take (i := 5) (v := ?_) (at_list rfl) (by kernel_rfl) (by kernel_rfl) (by kernel_rfl) (fun _ _ _ h => h) (Or.inl ⟨by rfl, ?_⟩) (by assumption) ?_
          rotate_left
          · intro w hSw; (try dsimp only at hSw); first | (go_simp; done) | (go_simp; with_reducible rfl)
          try simp only [Act.put]
          try simp only [List.setIfInBounds_toArray]
          try simp only [List.set_cons_succ]
          try simp only [List.set_cons_zero]
          refine wpAnyH_take (i := 6) (v := ?_) (at_list rfl) (by kernel_rfl) (by kernel_rfl) (by kernel_rfl) (fun _ _ _ h => h) (Or.inl ⟨by rfl, ?_⟩) (by assumption) ?_
          rotate_left
          · intro w hSw; (try dsimp only at hSw); first | (go_simp; done) | (go_simp; with_reducible rfl)
          try simp only [Act.put]
          try simp only [List.setIfInBounds_toArray]
          try simp only [List.set_cons_succ]
          try simp only [List.set_cons_zero]
          refine wpAnyH_take (i := 7) (v := ?_) (at_list rfl) (by kernel_rfl) (by kernel_rfl) (by kernel_rfl) (fun _ _ _ h => h) (Or.inl ⟨by rfl, ?_⟩) (by assumption) ?_
          rotate_left
          · intro w hSw; (try dsimp only at hSw); first | (go_simp; done) | (go_simp; with_reducible rfl)
          try simp only [Act.put]
          try simp only [List.setIfInBounds_toArray]
          try simp only [List.set_cons_succ]
          try simp only [List.set_cons_zero]
          refine wpAnyH_take (i := 8) (v := ?_) (at_list rfl) (by kernel_rfl) (by kernel_rfl) (by kernel_rfl) (fun _ _ _ h => h) (Or.inl ⟨by rfl, ?_⟩) (by assumption) ?_
          rotate_left
          · intro w hSw; (try dsimp only at hSw); first | (go_simp; done) | (go_simp; with_reducible rfl)
          try simp only [Act.put]
          try simp only [List.setIfInBounds_toArray]
          try simp only [List.set_cons_succ]
          try simp only [List.set_cons_zero]
          refine wpAnyH_done (by kernel_rfl) ?_ _
          refine NoPanic.normal ?_
          go_wp2
          go_ret2
          have hx : errIx L sz = k := firstIx_is (unhide HN) hlt (by simpa using unhide HZ)
          exact ⟨by rw [(errSigs_is hx hlt).1, (errSigs_is hx hlt).2]; rfl, box_below (by assumption)⟩
        · have hz3 : (errOf L (L.take k) (sgAt L k) sz != 0) = false := by simpa [errAt] using hz2
          have HZ := hide hz2
          clear hz2
          go_wp2
          go_roundw
          case rel => exact ⟨k + 1, by omega, by go_num, fun j hj => by
              by_cases e : j = k
              · subst e; simpa using unhide HZ
              · exact unhide HN j (by omega), by assumption⟩
          case measure => simp [intOf]; omega
      · go_wp2
        go_ret2
        have hx : errIx L sz = L.length := firstIx_none (fun j hj => unhide HN j (by omega))
        exact ⟨by rw [(errSigs_none hx).1, (errSigs_none hx).2]; rfl, box_below hb⟩

end Go.Proofs.Ytljodhcfimklkab
