import Derived.Test.YtljodhcfimklkabS2
namespace Go.Proofs.Ytljodhcfimklkab
open Go.RowKit

set_option maxRecDepth 100000 in
set_option maxHeartbeats 1000000 in
theorem checkMessages_any (v : Value) (P : List (Mg × Value)) (w : World) (h : MsgsAt 0 w v P) (hl : P.length ≤ 4) (hok : ∀ x ∈ P, x.1.Ok) :
    Calls Try.prog 42 #[v] w fun e w' => e = .returned (.tuple #[.int .i64 (errDbE (P.map Prod.fst)), .int .i64 (errDbP (P.map Prod.fst))]) ∧ Below w.heap.size w w' := by
  have HH := hide h
  have HOK := hide hok
  clear h hok
  rcases (unhide HH).opened with ⟨rfl, a, c, rfl⟩ | ⟨g, cap, rfl, hg, hcap, hcm, hc⟩
  · go_enter Try.func42, Try.ntmps42
    go_wp2
    refine wp_loop_rounds 1 ?_
    rw [rounds_succ]
    go_wp2
    go_ret2
    exact ⟨by simp [errDbE, errDbP], Below.refl _ _⟩
  · have HC := hide hc
    unfold maxLen at hcm
    clear hc
    go_enter Try.func42, Try.ntmps42
    go_wp2
    go_loopw [4, 5, 6, 7] (fun i _ _ _ wr => ∃ k : Nat, k ≤ P.length ∧ i = .int .i64 k ∧ (∀ j, j < k → decide (mE (P.map Prod.fst) j ≠ 0) = false) ∧ Below w.heap.size w wr) (fun i _ _ _ _ => P.length - (intOf i).toNat)
    case atStart => exact ⟨0, by omega, rfl, by intro j hj; omega, Below.refl _ _⟩
    case round =>
      obtain ⟨k, hk, rfl, hno, hb⟩ := hrel
      have HN := hide hno
      have HB := hide hb
      clear hno
      by_cases hlt : k < P.length
      · obtain ⟨c0, c1, c2, c3⟩ := mcells4 (unhide HC) hg hb hlt
        have hsg : SigsAt w (mgAt P k).2 (mgAt P k).1.sigs := (unhide HH).2 _ (mgAt_mem hlt)
        obtain ⟨va, vcap, hva⟩ := ownsRow_form hsg
        rw [hva] at c3 hsg
        have HSG := hide hsg
        have OKk := hide (unhide HOK _ (mgAt_mem hlt))
        clear hva hsg hb
        have hi0 : (0 : Int) ≤ (k : Int) := by omega
        have hi1 : (k : Int) < (P.length : Int) := by omega
        have hi2 : (k : Int) ≤ (P.length : Int) := by omega
        have hi3 : (k : Int) ≤ (cap : Int) := by omega
        have hbox := fun (wx : World) (h : Below (wr.heap.size + 1) (wr.alloc (.cells #[.int .i64 (mgAt P k).1.pl, .int .i64 (idNum (mgAt P k).1.id), .int .i64 (mgAt P k).1.sz, .slice va (mgAt P k).1.sigs.length vcap] 35)) wx) => box_cell h
        have HT := hide (show (P.take k).length ≤ 4 by rw [List.length_take]; omega)
        have htw := findM_twice (unhide HOK) hlt
        cases htb : twice (P.map Prod.fst) k with
        | true =>
          have hf0 : 0 ≤ findM (P.take k) (idNum (mgAt P k).1.id) := htw.2 htb
          have HTB := hide htb
          clear htw htb
          go_wp2
          clear c0 c1 c2 c3
          refine wp_region_noPanic ?_
          refine wp_region_held_drew (S := fun w' => Below (wr.heap.size + 1) (wr.alloc (.cells #[.int .i64 (mgAt P k).1.pl, .int .i64 (idNum (mgAt P k).1.id), .int .i64 (mgAt P k).1.sz, .slice va (mgAt P k).1.sigs.length vcap] 35)) w') (by kernel_rfl) (Below.refl _ _).drew (fun hHeld => ?_)
          refine wpAnyH_take (i := 0) (v := ?_) (at_list rfl) (by kernel_rfl) (by kernel_rfl) (by kernel_rfl) (fun _ _ _ h => h) (Or.inl ⟨by rfl, ?_⟩) (by assumption) ?_
          rotate_left
          · intro w hSw; (try dsimp only at hSw); first | (go_simp; done) | (go_simp; with_reducible rfl)
          try simp only [Act.put]
          try simp only [List.setIfInBounds_toArray]
          try simp only [List.set_cons_succ]
          try simp only [List.set_cons_zero]
          refine wpAnyH_take (i := 1) (v := ?_) (at_list rfl) (by kernel_rfl) (by kernel_rfl) (by kernel_rfl) (fun _ _ _ h => h) (Or.inl ⟨by rfl, ?_⟩) (by assumption) ?_
          rotate_left
          · intro w hSw; (try dsimp only at hSw); first | (go_simp; done) | (go_simp; with_reducible rfl)
          try simp only [Act.put]
          try simp only [List.setIfInBounds_toArray]
          try simp only [List.set_cons_succ]
          try simp only [List.set_cons_zero]
          refine wpAnyH_take (i := 2) (v := ?_) (at_list rfl) (by kernel_rfl) (by kernel_rfl) (by kernel_rfl) (fun _ _ _ h => h) (Or.inl ⟨by rfl, ?_⟩) (by assumption) ?_
          rotate_left
          · intro w hSw; (try dsimp only at hSw); first | (go_simp; done) | (go_simp; with_reducible rfl)
          try simp only [Act.put]
          try simp only [List.setIfInBounds_toArray]
          try simp only [List.set_cons_succ]
          try simp only [List.set_cons_zero]
          refine wpAnyH_take (i := 3) (v := ?_) (at_list rfl) (by kernel_rfl) (by kernel_rfl) (by kernel_rfl) (fun _ _ _ h => h) (Or.inl ⟨by rfl, ?_⟩) (by assumption) ?_
          rotate_left
          · intro w hSw; (try dsimp only at hSw); first | (go_simp; done) | (go_simp; with_reducible rfl)
          try simp only [Act.put]
          try simp only [List.setIfInBounds_toArray]
          try simp only [List.set_cons_succ]
          try simp only [List.set_cons_zero]
          refine wpAnyH_take (i := 4) (v := ?_) (at_list rfl) (by kernel_rfl) (by kernel_rfl) (by kernel_rfl) (fun _ _ _ h => h) (Or.inl ⟨by rfl, ?_⟩) (by assumption) ?_
          rotate_left
          · intro w hSw; (try dsimp only at hSw); first | (go_simp; done) | (go_simp; with_reducible rfl)
          try simp only [Act.put]
          try simp only [List.setIfInBounds_toArray]
          try simp only [List.set_cons_succ]
          try simp only [List.set_cons_zero]
          refine wpAnyH_ready (rs := [5]) (by kernel_rfl) (by simp) ?_
          refine AllReadyH.cons (at_list rfl) (fun K hK => ?_) AllReadyH.nil
          go_simp
          refine (findMessage_any _ (P.take k) _ _ ((show MsgsAt 0 _ _ P from (unhide HH).below ((unhide HB).trans ((box_below hHeld).mono (unhide HB).size))).take hlt) (unhide HT)).mono ?_; rintro e w3 ⟨rfl, rfl⟩; dsimp only
          refine hK.out _ _ (hHeld) (fun hHeld => ?_)
          clear hK K
          try simp only [Act.put]
          try simp only [List.setIfInBounds_toArray]
          try simp only [List.set_cons_succ]
          try simp only [List.set_cons_zero]
          refine wpAnyH_take (i := 6) (v := ?_) (at_list rfl) (by kernel_rfl) (by kernel_rfl) (by kernel_rfl) (fun _ _ _ h => h) (Or.inl ⟨by rfl, ?_⟩) (by assumption) ?_
          rotate_left
          · intro w hSw; (try dsimp only at hSw); first | (go_simp; done) | (go_simp; with_reducible rfl)
          try simp only [Act.put]
          try simp only [List.setIfInBounds_toArray]
          try simp only [List.set_cons_succ]
          try simp only [List.set_cons_zero]
          refine wpAnyH_done (by kernel_rfl) ?_ _
          refine NoPanic.normal ?_
          go_wp2
          refine wp_region_noPanic ?_
          refine wp_region_held_drew (S := fun w' => Below (wr.heap.size + 1) (wr.alloc (.cells #[.int .i64 (mgAt P k).1.pl, .int .i64 (idNum (mgAt P k).1.id), .int .i64 (mgAt P k).1.sz, .slice va (mgAt P k).1.sigs.length vcap] 35)) w') (by kernel_rfl) (by exact (Below.drew (by assumption))) (fun hHeld => ?_)
          refine wpAnyH_take (i := 0) (v := ?_) (at_list rfl) (by kernel_rfl) (by kernel_rfl) (by kernel_rfl) (fun _ _ _ h => h) (Or.inl ⟨by rfl, ?_⟩) (by assumption) ?_
          rotate_left
          · intro w hSw; (try dsimp only at hSw); first | (go_simp; done) | (go_simp; with_reducible rfl)
          try simp only [Act.put]
          try simp only [List.setIfInBounds_toArray]
          try simp only [List.set_cons_succ]
          try simp only [List.set_cons_zero]
          refine wpAnyH_take (i := 1) (v := ?_) (at_list rfl) (by kernel_rfl) (by kernel_rfl) (by kernel_rfl) (fun _ _ _ h => h) (Or.inl ⟨by rfl, ?_⟩) (by assumption) ?_
          rotate_left
          · intro w hSw; (try dsimp only at hSw); first | (go_simp; done) | (go_simp; with_reducible rfl)
          try simp only [Act.put]
          try simp only [List.setIfInBounds_toArray]
          try simp only [List.set_cons_succ]
          try simp only [List.set_cons_zero]
          refine wpAnyH_take (i := 2) (v := ?_) (at_list rfl) (by kernel_rfl) (by kernel_rfl) (by kernel_rfl) (fun _ _ _ h => h) (Or.inl ⟨by rfl, ?_⟩) (by assumption) ?_
          rotate_left
          · intro w hSw; (try dsimp only at hSw); first | (go_simp; done) | (go_simp; with_reducible rfl)
          try simp only [Act.put]
          try simp only [List.setIfInBounds_toArray]
          try simp only [List.set_cons_succ]
          try simp only [List.set_cons_zero]
          refine wpAnyH_take (i := 3) (v := ?_) (at_list rfl) (by kernel_rfl) (by kernel_rfl) (by kernel_rfl) (fun _ _ _ h => h) (Or.inl ⟨by rfl, ?_⟩) (by assumption) ?_
          rotate_left
          · intro w hSw; (try dsimp only at hSw); first | (go_simp; done) | (go_simp; with_reducible rfl)
          try simp only [Act.put]
          try simp only [List.setIfInBounds_toArray]
          try simp only [List.set_cons_succ]
          try simp only [List.set_cons_zero]
          refine wpAnyH_done (by kernel_rfl) ?_ _
          refine NoPanic.normal ?_
          go_wp2
          go_ret2
          have hmE : mE (P.map Prod.fst) k = 3 := by rw [mE, if_pos (unhide HTB)]
          have hx : errDbIx (P.map Prod.fst) = k := firstIx_is (unhide HN) (by simpa using hlt) (by rw [hmE]; rfl)
          exact ⟨by rw [(errDb_is hx (by simpa using hlt)).1, (errDb_is hx (by simpa using hlt)).2, hmE, mP, if_pos (unhide HTB), mAt_fst]; rfl, (unhide HB).trans ((box_below (by assumption)).mono (unhide HB).size)⟩
        | false =>
          have hf0 : findM (P.take k) (idNum (mgAt P k).1.id) < 0 := by
            rcases Int.lt_or_le (findM (P.take k) (idNum (mgAt P k).1.id)) 0 with h' | h'
            · exact h'
            · rw [htw.1 h'] at htb; cases htb
          have HTB := hide htb
          clear htw htb
          go_wp2
          clear c0 c1 c2 c3
          refine wp_region_noPanic ?_
          refine wp_region_held_drew (S := fun w' => Below (wr.heap.size + 1) (wr.alloc (.cells #[.int .i64 (mgAt P k).1.pl, .int .i64 (idNum (mgAt P k).1.id), .int .i64 (mgAt P k).1.sz, .slice va (mgAt P k).1.sigs.length vcap] 35)) w') (by kernel_rfl) (Below.refl _ _).drew (fun hHeld => ?_)
          refine wpAnyH_take (i := 0) (v := ?_) (at_list rfl) (by kernel_rfl) (by kernel_rfl) (by kernel_rfl) (fun _ _ _ h => h) (Or.inl ⟨by rfl, ?_⟩) (by assumption) ?_
          rotate_left
          · intro w hSw; (try dsimp only at hSw); first | (go_simp; done) | (go_simp; with_reducible rfl)
          try simp only [Act.put]
          try simp only [List.setIfInBounds_toArray]
          try simp only [List.set_cons_succ]
          try simp only [List.set_cons_zero]
          refine wpAnyH_take (i := 1) (v := ?_) (at_list rfl) (by kernel_rfl) (by kernel_rfl) (by kernel_rfl) (fun _ _ _ h => h) (Or.inl ⟨by rfl, ?_⟩) (by assumption) ?_
          rotate_left
          · intro w hSw; (try dsimp only at hSw); first | (go_simp; done) | (go_simp; with_reducible rfl)
          try simp only [Act.put]
          try simp only [List.setIfInBounds_toArray]
          try simp only [List.set_cons_succ]
          try simp only [List.set_cons_zero]
          refine wpAnyH_take (i := 2) (v := ?_) (at_list rfl) (by kernel_rfl) (by kernel_rfl) (by kernel_rfl) (fun _ _ _ h => h) (Or.inl ⟨by rfl, ?_⟩) (by assumption) ?_
          rotate_left
          · intro w hSw; (try dsimp only at hSw); first | (go_simp; done) | (go_simp; with_reducible rfl)
          try simp only [Act.put]
          try simp only [List.setIfInBounds_toArray]
          try simp only [List.set_cons_succ]
          try simp only [List.set_cons_zero]
          refine wpAnyH_take (i := 3) (v := ?_) (at_list rfl) (by kernel_rfl) (by kernel_rfl) (by kernel_rfl) (fun _ _ _ h => h) (Or.inl ⟨by rfl, ?_⟩) (by assumption) ?_
          rotate_left
          · intro w hSw; (try dsimp only at hSw); first | (go_simp; done) | (go_simp; with_reducible rfl)
          try simp only [Act.put]
          try simp only [List.setIfInBounds_toArray]
          try simp only [List.set_cons_succ]
          try simp only [List.set_cons_zero]
          refine wpAnyH_take (i := 4) (v := ?_) (at_list rfl) (by kernel_rfl) (by kernel_rfl) (by kernel_rfl) (fun _ _ _ h => h) (Or.inl ⟨by rfl, ?_⟩) (by assumption) ?_
          rotate_left
          · intro w hSw; (try dsimp only at hSw); first | (go_simp; done) | (go_simp; with_reducible rfl)
          try simp only [Act.put]
          try simp only [List.setIfInBounds_toArray]
          try simp only [List.set_cons_succ]
          try simp only [List.set_cons_zero]
          refine wpAnyH_ready (rs := [5]) (by kernel_rfl) (by simp) ?_
          refine AllReadyH.cons (at_list rfl) (fun K hK => ?_) AllReadyH.nil
          go_simp
          refine (findMessage_any _ (P.take k) _ _ ((show MsgsAt 0 _ _ P from (unhide HH).below ((unhide HB).trans ((box_below hHeld).mono (unhide HB).size))).take hlt) (unhide HT)).mono ?_; rintro e w3 ⟨rfl, rfl⟩; dsimp only
          refine hK.out _ _ (hHeld) (fun hHeld => ?_)
          clear hK K
          try simp only [Act.put]
          try simp only [List.setIfInBounds_toArray]
          try simp only [List.set_cons_succ]
          try simp only [List.set_cons_zero]
          refine wpAnyH_take (i := 6) (v := ?_) (at_list rfl) (by kernel_rfl) (by kernel_rfl) (by kernel_rfl) (fun _ _ _ h => h) (Or.inl ⟨by rfl, ?_⟩) (by assumption) ?_
          rotate_left
          · intro w hSw; (try dsimp only at hSw); first | (go_simp; done) | (go_simp; with_reducible rfl)
          try simp only [Act.put]
          try simp only [List.setIfInBounds_toArray]
          try simp only [List.set_cons_succ]
          try simp only [List.set_cons_zero]
          refine wpAnyH_done (by kernel_rfl) ?_ _
          refine NoPanic.normal ?_
          have hbx := hbox _ hHeld
          go_wp2_with fail
          refine (checkSignals_any _ _ (mgAt P k).1.sz _ (mgAt P k).1.sigs _ (ownsRow_below (unhide HSG) ((unhide HB).trans ((box_below (by assumption)).mono (unhide HB).size))) (unhide OKk).len (sigs_ok (unhide OKk)) (unhide OKk).sz0 (unhide OKk).sz1).mono ?_
          rintro e w4 ⟨rfl, hb4⟩
          have HB4 := hide ((unhide HB).trans ((box_below (box_next (by assumption) hb4)).mono (unhide HB).size))
          have hmE : mE (P.map Prod.fst) k = errSigsE (mgAt P k).1.sigs (mgAt P k).1.sz := by rw [mE, if_neg (by rw [unhide HTB]; simp), mAt_fst]
          have hmP : mP (P.map Prod.fst) k = errSigsP (mgAt P k).1.sigs (mgAt P k).1.sz := by rw [mP, if_neg (by rw [unhide HTB]; simp), mAt_fst]
          have HME := hide hmE
          have HMP := hide hmP
          clear hmE hmP hb4 hbx
          by_cases hz2 : errSigsE (mgAt P k).1.sigs (mgAt P k).1.sz ≠ 0
          · have hz3 : (errSigsE (mgAt P k).1.sigs (mgAt P k).1.sz != 0) = true := by simpa using hz2
            have HZ := hide hz2
            clear hz2
            go_wp2
            go_ret2
            have hx : errDbIx (P.map Prod.fst) = k := firstIx_is (unhide HN) (by simpa using hlt) (by rw [unhide HME]; simpa using unhide HZ)
            exact ⟨by rw [(errDb_is hx (by simpa using hlt)).1, (errDb_is hx (by simpa using hlt)).2, unhide HME, unhide HMP]; rfl, unhide HB4⟩
          · have hz3 : (errSigsE (mgAt P k).1.sigs (mgAt P k).1.sz != 0) = false := by simpa using hz2
            have HZ := hide hz2
            clear hz2
            go_wp2
            go_roundw
            case rel => exact ⟨k + 1, by omega, by go_num, fun j hj => by
                by_cases e : j = k
                · subst e; rw [unhide HME]; simpa using unhide HZ
                · exact unhide HN j (by omega), unhide HB4⟩
            case measure => simp [intOf]; omega
      · go_wp2
        go_ret2
        have hx : errDbIx (P.map Prod.fst) = (P.map Prod.fst).length := firstIx_none (fun j hj => unhide HN j (by simp at hj; omega))
        exact ⟨by rw [(errDb_none hx).1, (errDb_none hx).2]; rfl, unhide HB⟩

end Go.Proofs.Ytljodhcfimklkab
