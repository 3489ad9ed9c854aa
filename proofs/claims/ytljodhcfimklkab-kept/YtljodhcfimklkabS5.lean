import Derived.Test.YtljodhcfimklkabS4
namespace Go.Proofs.Ytljodhcfimklkab
open Go.RowKit

theorem str_inj {a b : ByteArray} (h : a.toList = b.toList) : a = b := by
  rw [ByteArray.toList_eq, ByteArray.toList_eq] at h
  exact ByteArray.ext (Array.toList_inj.1 h)
theorem str_ne {a b : ByteArray} (h : ¬ a = b) : (a.toList == b.toList) = false := by
  rw [beq_eq_false_iff_ne]; exact fun e => h (str_inj e)

set_option maxRecDepth 100000 in
set_option maxHeartbeats 4000000 in
theorem rCheck_any (s : ByteArray) (w : World) (hs : s.size ≤ maxLen) :
    Calls Try.prog 18 #[.string s] w fun e w' => e = .returned (.tuple #[.int .i64 (chkE s), .int .i64 (chkP s)]) ∧ Below w.heap.size w w' := by
  unfold maxLen at hs
  by_cases hlong : 320 < s.size
  · have HC := hide (chk_long hlong)
    go_enter Try.func18, Try.ntmps18
    go_wp2
    go_ret2
    exact ⟨by rw [(unhide HC).1, (unhide HC).2]; rfl, Below.refl _ _⟩
  · have hd320 : decide ((320 : Int) < (s.size : Int)) = false := by simp; omega
    go_enter Try.func18, Try.ntmps18
    go_wp2_with fail
    refine (rRead_any s _ (by omega)).mono ?_
    rintro e w1 ⟨hout, hb1⟩
    have HB1 := hide hb1
    clear hb1
    cases hpd : pDb s 4 0 with
    | inl p =>
      rw [RDbOut, hpd] at hout
      dsimp only at hout
      subst hout
      have HC := hide (chk_text hlong hpd)
      clear hpd
      go_wp2
      go_ret2
      exact ⟨by rw [(unhide HC).1, (unhide HC).2]; rfl, unhide HB1⟩
    | inr M =>
      rw [RDbOut, hpd] at hout
      dsimp only at hout
      obtain ⟨v, P, q, rfl, rfl, hm, hl, hok⟩ := hout
      have HM := hide hm
      have HOK := hide hok
      have HC := hide (chk_db hlong hpd)
      clear hm hok hpd
      rcases (unhide HM).opened with ⟨rfl, a, c, rfl⟩ | ⟨g, cap, rfl, hg, hcap, hcm, hc⟩
      · go_wp2
        refine wp_loop_rounds 1 ?_
        rw [rounds_succ]
        go_wp2
        go_ret2
        exact ⟨by rw [(unhide HC).1, (unhide HC).2]; simp [errDbE, errDbP], unhide HB1⟩
      have HCC := hide hc
      unfold maxLen at hcm
      clear hc
      go_wp2
      go_loopw [7, 8, 9, 10] (fun i _ _ _ wr => ∃ k : Nat, k ≤ P.length ∧ i = .int .i64 k ∧ (∀ j, j < k → decide (mE (P.map Prod.fst) j ≠ 0) = false) ∧ Below w1.heap.size w1 wr) (fun i _ _ _ _ => P.length - (intOf i).toNat)
      case atStart => exact ⟨0, by omega, rfl, by intro j hj; omega, Below.refl _ _⟩
      case round =>
        obtain ⟨k, hk, rfl, hno, hb⟩ := hrel
        have HN := hide hno
        have HB := hide hb
        clear hno hb
        by_cases hlt : k < P.length
        · have ck := fun (wx : World) (h : Below w1.heap.size w1 wx) => rmcells4 (k := k) (unhide HCC) hg h hlt
          have hsg : RSigsAt w1 (mgAt P k).2 (mgAt P k).1.sigs := (unhide HM).2 _ (mgAt_mem hlt)
          obtain ⟨va, vcap, hva⟩ := ownsRow_form hsg
          rw [hva] at ck hsg
          have HSG := hide hsg
          have OKk := hide (unhide HOK _ (mgAt_mem hlt))
          clear hva hsg
          have hi0 : (0 : Int) ≤ (k : Int) := by omega
          have hi1 : (k : Int) < (P.length : Int) := by omega
          obtain ⟨wo, rfl⟩ : ∃ wo : World, wo = wr := ⟨_, rfl⟩
          go_wp2
          go_loopw [8] (fun i wr => ∃ m : Nat, m ≤ k ∧ i = .int .i64 m ∧ (∀ j, j < m → decide ((mAt (P.map Prod.fst) j).id = (mAt (P.map Prod.fst) k).id) = false) ∧ Below w1.heap.size w1 wr) (fun i _ => k - (intOf i).toNat)
          case atStart => exact ⟨0, by omega, rfl, by intro j hj; omega, unhide HB⟩
          case round =>
            obtain ⟨m, hm, rfl, hno2, hb2⟩ := hrel
            have HN2 := hide hno2
            clear hno2
            by_cases hlt2 : m < k
            · have cm := fun (wx : World) (h : Below w1.heap.size w1 wx) => (rmcells4 (k := m) (unhide HCC) hg h (by omega)).1
              have hj0 : (0 : Int) ≤ (m : Int) := by omega
              have hj1 : (m : Int) < (P.length : Int) := by omega
              go_wp2
              refine wp_region_noPanic ?_
              refine wp_region_held_drew (S := fun w' => Below w1.heap.size w1 w') (by kernel_rfl) hb2.drew (fun hHeld => ?_)
              clear hb2
              refine wpAnyH_take (i := 0) (v := ?_) (at_list rfl) (by kernel_rfl) (by kernel_rfl) (by kernel_rfl) (fun _ _ _ h => h) (Or.inl ⟨by rfl, ?_⟩) (by assumption) ?_
              rotate_left
              · intro w hSw; (try dsimp only at hSw); first | (go_simp; done) | (go_simp; with_reducible rfl)
              try simp only [Act.put]
              try simp only [List.setIfInBounds_toArray]
              try simp only [List.set_cons_succ]
              try simp only [List.set_cons_zero]
              refine wpAnyH_take (i := 1) (v := ?_) (at_list rfl) (by kernel_rfl) (by kernel_rfl) (by kernel_rfl) (fun _ _ _ h => h) (Or.inl ⟨by rfl, ?_⟩) (by assumption) ?_
              rotate_left
              · intro w hSw; (try dsimp only at hSw); first | (go_simp; done) | (go_simp; with_reducible rfl)
              try simp only [Act.put]
              try simp only [List.setIfInBounds_toArray]
              try simp only [List.set_cons_succ]
              try simp only [List.set_cons_zero]
              refine wpAnyH_take (i := 2) (v := ?_) (at_list rfl) (by kernel_rfl) (by kernel_rfl) (by kernel_rfl) (fun _ _ _ h => h) (Or.inl ⟨by rfl, ?_⟩) (by assumption) ?_
              rotate_left
              · intro w hSw; (try dsimp only at hSw); first | (go_simp; done) | (go_simp; with_reducible rfl)
              try simp only [Act.put]
              try simp only [List.setIfInBounds_toArray]
              try simp only [List.set_cons_succ]
              try simp only [List.set_cons_zero]
              refine wpAnyH_take (i := 3) (v := ?_) (at_list rfl) (by kernel_rfl) (by kernel_rfl) (by kernel_rfl) (fun _ _ _ h => h) (Or.inl ⟨by rfl, ?_⟩) (by assumption) ?_
              rotate_left
              · intro w hSw; (try dsimp only at hSw); first | (go_simp; done) | (go_simp; with_reducible rfl)
              try simp only [Act.put]
              try simp only [List.setIfInBounds_toArray]
              try simp only [List.set_cons_succ]
              try simp only [List.set_cons_zero]
              refine wpAnyH_take (i := 4) (v := ?_) (at_list rfl) (by kernel_rfl) (by kernel_rfl) (by kernel_rfl) (fun _ _ _ h => h) (Or.inl ⟨by rfl, ?_⟩) (by assumption) ?_
              rotate_left
              · intro w hSw; (try dsimp only at hSw); first | (go_simp; done) | (go_simp; with_reducible rfl)
              try simp only [Act.put]
              try simp only [List.setIfInBounds_toArray]
              try simp only [List.set_cons_succ]
              try simp only [List.set_cons_zero]
              refine wpAnyH_take (i := 5) (v := ?_) (at_list rfl) (by kernel_rfl) (by kernel_rfl) (by kernel_rfl) (fun _ _ _ h => h) (Or.inl ⟨by rfl, ?_⟩) (by assumption) ?_
              rotate_left
              · intro w hSw; (try dsimp only at hSw); first | (go_simp; done) | (go_simp; with_reducible rfl)
              try simp only [Act.put]
              try simp only [List.setIfInBounds_toArray]
              try simp only [List.set_cons_succ]
              try simp only [List.set_cons_zero]
              refine wpAnyH_take (i := 6) (v := ?_) (at_list rfl) (by kernel_rfl) (by kernel_rfl) (by kernel_rfl) (fun _ _ _ h => h) (Or.inl ⟨by rfl, ?_⟩) (by assumption) ?_
              rotate_left
              · intro w hSw; (try dsimp only at hSw); first | (go_simp; done) | (go_simp; with_reducible rfl)
              try simp only [Act.put]
              try simp only [List.setIfInBounds_toArray]
              try simp only [List.set_cons_succ]
              try simp only [List.set_cons_zero]
              refine wpAnyH_take (i := 7) (v := ?_) (at_list rfl) (by kernel_rfl) (by kernel_rfl) (by kernel_rfl) (fun _ _ _ h => h) (Or.inl ⟨by rfl, ?_⟩) (by assumption) ?_
              rotate_left
              · intro w hSw; (try dsimp only at hSw); first | (go_simp; done) | (go_simp; with_reducible rfl)
              try simp only [Act.put]
              try simp only [List.setIfInBounds_toArray]
              try simp only [List.set_cons_succ]
              try simp only [List.set_cons_zero]
              refine wpAnyH_take (i := 8) (v := ?_) (at_list rfl) (by kernel_rfl) (by kernel_rfl) (by kernel_rfl) (fun _ _ _ h => h) (Or.inl ⟨by rfl, ?_⟩) (by assumption) ?_
              rotate_left
              · intro w hSw; (try dsimp only at hSw); first | (go_simp; done) | (go_simp; with_reducible rfl)
              try simp only [Act.put]
              try simp only [List.setIfInBounds_toArray]
              try simp only [List.set_cons_succ]
              try simp only [List.set_cons_zero]
              refine wpAnyH_take (i := 9) (v := ?_) (at_list rfl) (by kernel_rfl) (by kernel_rfl) (by kernel_rfl) (fun _ _ _ h => h) (Or.inl ⟨by rfl, ?_⟩) (by assumption) ?_
              rotate_left
              · intro w hSw; (try dsimp only at hSw); first | (go_simp; done) | (go_simp; with_reducible rfl)
              try simp only [Act.put]
              try simp only [List.setIfInBounds_toArray]
              try simp only [List.set_cons_succ]
              try simp only [List.set_cons_zero]
              by_cases hid : (mgAt P m).1.id = (mgAt P k).1.id
              · have hb3 : ((mgAt P m).1.id.toList == (mgAt P k).1.id.toList) = true := by rw [hid]; simp
                have HID := hide hid
                clear hid
                refine wpAnyH_take (i := 10) (v := ?_) (at_list rfl) (by kernel_rfl) (by kernel_rfl) (by kernel_rfl) (fun _ _ _ h => h) (Or.inl ⟨by rfl, ?_⟩) (by assumption) ?_
                rotate_left
                · intro w hSw; (try dsimp only at hSw); first | (go_simp; done) | (go_simp; with_reducible rfl)
                try simp only [Act.put]
                try simp only [List.setIfInBounds_toArray]
                try simp only [List.set_cons_succ]
                try simp only [List.set_cons_zero]
                refine wpAnyH_done (by kernel_rfl) ?_ _
                refine NoPanic.normal ?_
                clear cm hb3
                go_wp2
                refine wp_region_noPanic ?_
                refine wp_region_held_drew (S := fun w' => Below w1.heap.size w1 w') (by kernel_rfl) (by exact (Below.drew (by assumption))) (fun hHeld => ?_)
                refine wpAnyH_take (i := 0) (v := ?_) (at_list rfl) (by kernel_rfl) (by kernel_rfl) (by kernel_rfl) (fun _ _ _ h => h) (Or.inl ⟨by rfl, ?_⟩) (by assumption) ?_
                rotate_left
                · intro w hSw; (try dsimp only at hSw); first | (go_simp; done) | (go_simp; with_reducible rfl)
                try simp only [Act.put]
                try simp only [List.setIfInBounds_toArray]
                try simp only [List.set_cons_succ]
                try simp only [List.set_cons_zero]
                refine wpAnyH_take (i := 1) (v := ?_) (at_list rfl) (by kernel_rfl) (by kernel_rfl) (by kernel_rfl) (fun _ _ _ h => h) (Or.inl ⟨by rfl, ?_⟩) (by assumption) ?_
                rotate_left
                · intro w hSw; (try dsimp only at hSw); first | (go_simp; done) | (go_simp; with_reducible rfl)
                try simp only [Act.put]
                try simp only [List.setIfInBounds_toArray]
                try simp only [List.set_cons_succ]
                try simp only [List.set_cons_zero]
                refine wpAnyH_take (i := 2) (v := ?_) (at_list rfl) (by kernel_rfl) (by kernel_rfl) (by kernel_rfl) (fun _ _ _ h => h) (Or.inl ⟨by rfl, ?_⟩) (by assumption) ?_
                rotate_left
                · intro w hSw; (try dsimp only at hSw); first | (go_simp; done) | (go_simp; with_reducible rfl)
                try simp only [Act.put]
                try simp only [List.setIfInBounds_toArray]
                try simp only [List.set_cons_succ]
                try simp only [List.set_cons_zero]
                refine wpAnyH_take (i := 3) (v := ?_) (at_list rfl) (by kernel_rfl) (by kernel_rfl) (by kernel_rfl) (fun _ _ _ h => h) (Or.inl ⟨by rfl, ?_⟩) (by assumption) ?_
                rotate_left
                · intro w hSw; (try dsimp only at hSw); first | (go_simp; done) | (go_simp; with_reducible rfl)
                try simp only [Act.put]
                try simp only [List.setIfInBounds_toArray]
                try simp only [List.set_cons_succ]
                try simp only [List.set_cons_zero]
                refine wpAnyH_take (i := 4) (v := ?_) (at_list rfl) (by kernel_rfl) (by kernel_rfl) (by kernel_rfl) (fun _ _ _ h => h) (Or.inl ⟨by rfl, ?_⟩) (by assumption) ?_
                rotate_left
                · intro w hSw; (try dsimp only at hSw); first | (go_simp; done) | (go_simp; with_reducible rfl)
                try simp only [Act.put]
                try simp only [List.setIfInBounds_toArray]
                try simp only [List.set_cons_succ]
                try simp only [List.set_cons_zero]
                refine wpAnyH_take (i := 5) (v := ?_) (at_list rfl) (by kernel_rfl) (by kernel_rfl) (by kernel_rfl) (fun _ _ _ h => h) (Or.inl ⟨by rfl, ?_⟩) (by assumption) ?_
                rotate_left
                · intro w hSw; (try dsimp only at hSw); first | (go_simp; done) | (go_simp; with_reducible rfl)
                try simp only [Act.put]
                try simp only [List.setIfInBounds_toArray]
                try simp only [List.set_cons_succ]
                try simp only [List.set_cons_zero]
                refine wpAnyH_take (i := 6) (v := ?_) (at_list rfl) (by kernel_rfl) (by kernel_rfl) (by kernel_rfl) (fun _ _ _ h => h) (Or.inl ⟨by rfl, ?_⟩) (by assumption) ?_
                rotate_left
                · intro w hSw; (try dsimp only at hSw); first | (go_simp; done) | (go_simp; with_reducible rfl)
                try simp only [Act.put]
                try simp only [List.setIfInBounds_toArray]
                try simp only [List.set_cons_succ]
                try simp only [List.set_cons_zero]
                refine wpAnyH_done (by kernel_rfl) ?_ _
                refine NoPanic.normal ?_
                go_wp2
                go_ret2
                have htw : twice (P.map Prod.fst) k = true := anyIx_is (unhide HN2) hlt2 (by rw [mAt_fst, mAt_fst]; simpa using unhide HID)
                have hmE : mE (P.map Prod.fst) k = 3 := by rw [mE, if_pos htw]
                have hx : errDbIx (P.map Prod.fst) = k := firstIx_is (unhide HN) (by simpa using hlt) (by rw [hmE]; rfl)
                exact ⟨by rw [(unhide HC).1, (unhide HC).2, (errDb_is hx (by simpa using hlt)).1, (errDb_is hx (by simpa using hlt)).2, hmE, mP, if_pos htw, mAt_fst]; rfl, (unhide HB1).trans (Below.mono (by assumption) (unhide HB1).size)⟩
              · have hb3 : ((mgAt P m).1.id.toList == (mgAt P k).1.id.toList) = false := str_ne hid
                have HID := hide hid
                clear hid
                refine wpAnyH_take (i := 10) (v := ?_) (at_list rfl) (by kernel_rfl) (by kernel_rfl) (by kernel_rfl) (fun _ _ _ h => h) (Or.inl ⟨by rfl, ?_⟩) (by assumption) ?_
                rotate_left
                · intro w hSw; (try dsimp only at hSw); first | (go_simp; done) | (go_simp; with_reducible rfl)
                try simp only [Act.put]
                try simp only [List.setIfInBounds_toArray]
                try simp only [List.set_cons_succ]
                try simp only [List.set_cons_zero]
                refine wpAnyH_done (by kernel_rfl) ?_ _
                refine NoPanic.normal ?_
                clear cm hb3
                go_wp2
                go_roundw
                case rel => exact ⟨m + 1, by omega, by go_num, fun j hj => by
                    by_cases e : j = m
                    · subst e; rw [mAt_fst, mAt_fst]; simpa using unhide HID
                    · exact unhide HN2 j (by omega), by assumption⟩
                case measure => simp [intOf]; omega
            · have htw : twice (P.map Prod.fst) k = false := anyIx_none (fun j hj => unhide HN2 j (by omega))
              have HTW := hide htw
              have HB2 := hide hb2
              have hmk : m = k := by omega
              subst hmk
              clear htw
              obtain ⟨L, hLL⟩ : ∃ L, L = (mgAt P m).1.sigs := ⟨_, rfl⟩
              have HLL := hide hLL
              have hmE : mE (P.map Prod.fst) m = errSigsE L (mgAt P m).1.sz := by rw [mE, if_neg (by rw [unhide HTW]; simp), mAt_fst, hLL]
              have hmP : mP (P.map Prod.fst) m = errSigsP L (mgAt P m).1.sz := by rw [mP, if_neg (by rw [unhide HTW]; simp), mAt_fst, hLL]
              have HME := hide hmE
              have HMP := hide hmP
              clear hmE hmP
              rw [← hLL] at ck
              have HSG2 : Hid (RSigsAt w1 (Value.slice va L.length vcap) L) := hide (by have := unhide HSG; rw [← hLL] at this; exact this)
              have hlen : L.length ≤ 8 := by rw [hLL]; exact (unhide OKk).len
              have HSO : Hid (∀ k, k < L.length → (sgAt L k).Ok) := hide (by rw [hLL]; exact sigs_ok (unhide OKk))
              clear hLL hb2
              have ckw := ck _ (unhide HB2)
              go_wp2
              clear ckw
              obtain ⟨wo2, rfl⟩ : ∃ wo : World, wo = wr := ⟨_, rfl⟩
              go_loopw [9, 10] (fun i _ wr => ∃ n : Nat, n ≤ L.length ∧ i = .int .i64 n ∧ (∀ j, j < n → decide (errAt L (mgAt P m).1.sz j ≠ 0) = false) ∧ Below w1.heap.size w1 wr) (fun i _ _ => L.length - (intOf i).toNat)
              case atStart => exact ⟨0, by omega, rfl, by intro j hj; omega, unhide HB2⟩
              case round =>
                obtain ⟨n, hn, rfl, hno3, hb3⟩ := hrel
                have HN3 := hide hno3
                have HB3 := hide hb3
                have ckw := ck _ hb3
                clear hno3 hb3
                by_cases hlt3 : n < L.length
                · go_wp2_with fail
                  refine (rWrong_any (mgAt P m).1.id (mgAt P m).1.sz _ _ L n _ (ownsRow_below (unhide HSG2) (unhide HB3)) hlen hlt3 (unhide HSO) (unhide OKk).sz0 (unhide OKk).sz1).mono ?_
                  rintro e w4 ⟨rfl, hb4⟩
                  have hb4' := (unhide HB3).trans (hb4.mono (unhide HB3).size)
                  rw [← errAt_eq L _ n hlt3]
                  clear hb4 ckw
                  by_cases hz : errAt L (mgAt P m).1.sz n = 0
                  · have hz2 : (errAt L (mgAt P m).1.sz n != 0) = false := by rw [hz]; rfl
                    have HZ := hide hz
                    clear hz
                    go_wp2
                    go_roundw
                    case rel => exact ⟨n + 1, by omega, by go_num, fun j hj => by
                        by_cases e : j = n
                        · subst e; simpa using unhide HZ
                        · exact unhide HN3 j (by omega), hb4'⟩
                    case measure => simp [intOf]; omega
                  · have hz2 : (errAt L (mgAt P m).1.sz n != 0) = true := by simpa using hz
                    have HZ := hide hz
                    clear hz
                    rcases (unhide HSG2).opened with ⟨hnil, _⟩ | ⟨g2, cap2, hv2, hg2, hcap2, hcm2, hc2⟩
                    · rw [hnil] at hlt3; simp at hlt3
                    cases hv2
                    have HC2 := hide hc2
                    clear hc2
                    have cn := fun (wx : World) (h : Below w1.heap.size w1 wx) => (rcells7 (k := n) (unhide HC2) hg2 h hlt3).2.2.2.2.2.2
                    have hk0 : (0 : Int) ≤ (n : Int) := by omega
                    have hk1 : (n : Int) < (L.length : Int) := by omega
                    go_wp2
                    refine wp_region_noPanic ?_
                    refine wp_region_held_drew (S := fun w' => Below w1.heap.size w1 w') (by kernel_rfl) hb4'.drew (fun hHeld => ?_)
                    refine wpAnyH_take (i := 0) (v := ?_) (at_list rfl) (by kernel_rfl) (by kernel_rfl) (by kernel_rfl) (fun _ _ _ h => h) (Or.inl ⟨by rfl, ?_⟩) (by assumption) ?_
                    rotate_left
                    · intro w hSw; (try dsimp only at hSw); first | (go_simp; done) | (go_simp; with_reducible rfl)
                    try simp only [Act.put]
                    try simp only [List.setIfInBounds_toArray]
                    try simp only [List.set_cons_succ]
                    try simp only [List.set_cons_zero]
                    refine wpAnyH_take (i := 1) (v := ?_) (at_list rfl) (by kernel_rfl) (by kernel_rfl) (by kernel_rfl) (fun _ _ _ h => h) (Or.inl ⟨by rfl, ?_⟩) (by assumption) ?_
                    rotate_left
                    · intro w hSw; (try dsimp only at hSw); first | (go_simp; done) | (go_simp; with_reducible rfl)
                    try simp only [Act.put]
                    try simp only [List.setIfInBounds_toArray]
                    try simp only [List.set_cons_succ]
                    try simp only [List.set_cons_zero]
                    refine wpAnyH_take (i := 2) (v := ?_) (at_list rfl) (by kernel_rfl) (by kernel_rfl) (by kernel_rfl) (fun _ _ _ h => h) (Or.inl ⟨by rfl, ?_⟩) (by assumption) ?_
                    rotate_left
                    · intro w hSw; (try dsimp only at hSw); first | (go_simp; done) | (go_simp; with_reducible rfl)
                    try simp only [Act.put]
                    try simp only [List.setIfInBounds_toArray]
                    try simp only [List.set_cons_succ]
                    try simp only [List.set_cons_zero]
                    refine wpAnyH_take (i := 3) (v := ?_) (at_list rfl) (by kernel_rfl) (by kernel_rfl) (by kernel_rfl) (fun _ _ _ h => h) (Or.inl ⟨by rfl, ?_⟩) (by assumption) ?_
                    rotate_left
                    · intro w hSw; (try dsimp only at hSw); first | (go_simp; done) | (go_simp; with_reducible rfl)
                    try simp only [Act.put]
                    try simp only [List.setIfInBounds_toArray]
                    try simp only [List.set_cons_succ]
                    try simp only [List.set_cons_zero]
                    refine wpAnyH_take (i := 4) (v := ?_) (at_list rfl) (by kernel_rfl) (by kernel_rfl) (by kernel_rfl) (fun _ _ _ h => h) (Or.inl ⟨by rfl, ?_⟩) (by assumption) ?_
                    rotate_left
                    · intro w hSw; (try dsimp only at hSw); first | (go_simp; done) | (go_simp; with_reducible rfl)
                    try simp only [Act.put]
                    try simp only [List.setIfInBounds_toArray]
                    try simp only [List.set_cons_succ]
                    try simp only [List.set_cons_zero]
                    refine wpAnyH_take (i := 5) (v := ?_) (at_list rfl) (by kernel_rfl) (by kernel_rfl) (by kernel_rfl) (fun _ _ _ h => h) (Or.inl ⟨by rfl, ?_⟩) (by assumption) ?_
                    rotate_left
                    · intro w hSw; (try dsimp only at hSw); first | (go_simp; done) | (go_simp; with_reducible rfl)
                    try simp only [Act.put]
                    try simp only [List.setIfInBounds_toArray]
                    try simp only [List.set_cons_succ]
                    try simp only [List.set_cons_zero]
                    refine wpAnyH_take (i := 6) (v := ?_) (at_list rfl) (by kernel_rfl) (by kernel_rfl) (by kernel_rfl) (fun _ _ _ h => h) (Or.inl ⟨by rfl, ?_⟩) (by assumption) ?_
                    rotate_left
                    · intro w hSw; (try dsimp only at hSw); first | (go_simp; done) | (go_simp; with_reducible rfl)
                    try simp only [Act.put]
                    try simp only [List.setIfInBounds_toArray]
                    try simp only [List.set_cons_succ]
                    try simp only [List.set_cons_zero]
                    refine wpAnyH_take (i := 7) (v := ?_) (at_list rfl) (by kernel_rfl) (by kernel_rfl) (by kernel_rfl) (fun _ _ _ h => h) (Or.inl ⟨by rfl, ?_⟩) (by assumption) ?_
                    rotate_left
                    · intro w hSw; (try dsimp only at hSw); first | (go_simp; done) | (go_simp; with_reducible rfl)
                    try simp only [Act.put]
                    try simp only [List.setIfInBounds_toArray]
                    try simp only [List.set_cons_succ]
                    try simp only [List.set_cons_zero]
                    refine wpAnyH_take (i := 8) (v := ?_) (at_list rfl) (by kernel_rfl) (by kernel_rfl) (by kernel_rfl) (fun _ _ _ h => h) (Or.inl ⟨by rfl, ?_⟩) (by assumption) ?_
                    rotate_left
                    · intro w hSw; (try dsimp only at hSw); first | (go_simp; done) | (go_simp; with_reducible rfl)
                    try simp only [Act.put]
                    try simp only [List.setIfInBounds_toArray]
                    try simp only [List.set_cons_succ]
                    try simp only [List.set_cons_zero]
                    refine wpAnyH_take (i := 9) (v := ?_) (at_list rfl) (by kernel_rfl) (by kernel_rfl) (by kernel_rfl) (fun _ _ _ h => h) (Or.inl ⟨by rfl, ?_⟩) (by assumption) ?_
                    rotate_left
                    · intro w hSw; (try dsimp only at hSw); first | (go_simp; done) | (go_simp; with_reducible rfl)
                    try simp only [Act.put]
                    try simp only [List.setIfInBounds_toArray]
                    try simp only [List.set_cons_succ]
                    try simp only [List.set_cons_zero]
                    refine wpAnyH_take (i := 10) (v := ?_) (at_list rfl) (by kernel_rfl) (by kernel_rfl) (by kernel_rfl) (fun _ _ _ h => h) (Or.inl ⟨by rfl, ?_⟩) (by assumption) ?_
                    rotate_left
                    · intro w hSw; (try dsimp only at hSw); first | (go_simp; done) | (go_simp; with_reducible rfl)
                    try simp only [Act.put]
                    try simp only [List.setIfInBounds_toArray]
                    try simp only [List.set_cons_succ]
                    try simp only [List.set_cons_zero]
                    refine wpAnyH_take (i := 11) (v := ?_) (at_list rfl) (by kernel_rfl) (by kernel_rfl) (by kernel_rfl) (fun _ _ _ h => h) (Or.inl ⟨by rfl, ?_⟩) (by assumption) ?_
                    rotate_left
                    · intro w hSw; (try dsimp only at hSw); first | (go_simp; done) | (go_simp; with_reducible rfl)
                    try simp only [Act.put]
                    try simp only [List.setIfInBounds_toArray]
                    try simp only [List.set_cons_succ]
                    try simp only [List.set_cons_zero]
                    refine wpAnyH_done (by kernel_rfl) ?_ _
                    refine NoPanic.normal ?_
                    go_wp2
                    go_ret2
                    have hx3 : errIx L (mgAt P m).1.sz = n := firstIx_is (unhide HN3) hlt3 (by simpa using unhide HZ)
                    have hx : errDbIx (P.map Prod.fst) = m := firstIx_is (unhide HN) (by simpa using hlt) (by rw [unhide HME, (errSigs_is hx3 hlt3).1]; simpa using unhide HZ)
                    exact ⟨by rw [(unhide HC).1, (unhide HC).2, (errDb_is hx (by simpa using hlt)).1, (errDb_is hx (by simpa using hlt)).2, unhide HME, unhide HMP, (errSigs_is hx3 hlt3).1, (errSigs_is hx3 hlt3).2]; rfl, (unhide HB1).trans (Below.mono (by assumption) (unhide HB1).size)⟩
                · go_wp2
                  go_roundw
                  case rel => exact ⟨m + 1, by omega, by go_num, fun j hj => by
                      by_cases e : j = m
                      · subst e
                        have hx3 : errIx L (mgAt P j).1.sz = L.length := firstIx_none (fun j hj => unhide HN3 j (by omega))
                        rw [unhide HME, (errSigs_none hx3).1]; rfl
                      · exact unhide HN j (by omega), unhide HB3⟩
                  case measure => simp [intOf]; omega
        · go_wp2
          go_ret2
          have hx : errDbIx (P.map Prod.fst) = (P.map Prod.fst).length := firstIx_none (fun j hj => unhide HN j (by simp at hj; omega))
          exact ⟨by rw [(unhide HC).1, (unhide HC).2, (errDb_none hx).1, (errDb_none hx).2]; rfl, (unhide HB1).trans ((unhide HB).mono (unhide HB1).size)⟩

end Go.Proofs.Ytljodhcfimklkab
