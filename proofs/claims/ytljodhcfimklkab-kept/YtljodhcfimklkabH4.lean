import Derived.Test.YtljodhcfimklkabH3
namespace Go.Proofs.Ytljodhcfimklkab
open Go.RowKit

set_option maxRecDepth 100000 in
set_option maxHeartbeats 2000000 in
theorem rWrong_any (id : ByteArray) (sz pl : Int) (v : Value) (L : List Sg) (i : Nat) (w : World) (hL : RSigsAt w v L) (hl : L.length ≤ 8) (hi : i < L.length)
    (hok : ∀ k, k < L.length → (sgAt L k).Ok) (hz0 : 0 ≤ sz) (hz : sz ≤ 8) :
    Calls Try.prog 38 #[.agg #[.string id, .int .i64 sz, v, .int .i64 pl], .int .i64 i] w
      fun e w' => e = .returned (.int .i64 (errR L sz i)) ∧ Below w.heap.size w w' := by
  have HL := hide hL
  have HOK := hide hok
  clear hL hok
  rcases (unhide HL).opened with ⟨rfl, a, c, rfl⟩ | ⟨g, cap, rfl, hg, hcap, hcm, hc⟩
  · simp at hi
  have HC := hide hc
  unfold maxLen at hcm
  clear hc
  have ci := fun (wx : World) (h : Below w.heap.size w wx) => rcells7 (unhide HC) hg h hi
  have ciw := ci _ ((Below.refl _ _).alloc (Nat.le_refl _) (.cells #[.string id, .int .i64 sz, .slice (some ⟨g, 0, none⟩) L.length cap, .int .i64 pl] 56))
  have hbox := fun (wx : World) (h : Below (w.heap.size + 2) ((w.alloc (.cells #[.string id, .int .i64 sz, .slice (some ⟨g, 0, none⟩) L.length cap, .int .i64 pl] 56)).alloc (.cells #[.int .u8 (sgAt L i).nm, .int .i64 (sgAt L i).st, .int .i64 (sgAt L i).ln, .bool (decide ((sgAt L i).od = 62)), .bool (decide ((sgAt L i).kd = 115)), .int .u8 (sgAt L i).rl, .int .i64 (sgAt L i).pl] 63)) wx) (j : Nat) => box2_cell h j
  have OKi := hide (unhide HOK i hi)
  have lni := (unhide OKi).ln0
  have lni1 := (unhide OKi).ln1
  go_enter Try.func38, Try.ntmps38
  go_wp2
  clear ciw ci
  go_loopw [6] (fun r wr => ∃ k : Nat, k ≤ i ∧ r = .int .i64 k ∧ (∀ j, j < k → decide ((sgAt L j).nm = (sgAt L i).nm) = false) ∧ Below (w.heap.size + 2) ((w.alloc (.cells #[.string id, .int .i64 sz, .slice (some ⟨g, 0, none⟩) L.length cap, .int .i64 pl] 56)).alloc (.cells #[.int .u8 (sgAt L i).nm, .int .i64 (sgAt L i).st, .int .i64 (sgAt L i).ln, .bool (decide ((sgAt L i).od = 62)), .bool (decide ((sgAt L i).kd = 115)), .int .u8 (sgAt L i).rl, .int .i64 (sgAt L i).pl] 63)) wr) (fun r _ => i - (intOf r).toNat)
  case atStart => exact ⟨0, by omega, rfl, by intro j hj; omega, Below.refl _ _⟩
  case round =>
    obtain ⟨k, hk, rfl, hno, hb⟩ := hrel
    have HN := hide hno
    clear hno
    by_cases hlt : k < i
    · have ck := fun (wx : World) (h : Below (w.heap.size + 2) ((w.alloc (.cells #[.string id, .int .i64 sz, .slice (some ⟨g, 0, none⟩) L.length cap, .int .i64 pl] 56)).alloc (.cells #[.int .u8 (sgAt L i).nm, .int .i64 (sgAt L i).st, .int .i64 (sgAt L i).ln, .bool (decide ((sgAt L i).od = 62)), .bool (decide ((sgAt L i).kd = 115)), .int .u8 (sgAt L i).rl, .int .i64 (sgAt L i).pl] 63)) wx) => rcells7 (k := k) (unhide HC) hg (box2_below h) (by omega)
      have hi0 : (0 : Int) ≤ (k : Int) := by omega
      have hi1 : (k : Int) < (L.length : Int) := by omega
      go_wp2
      refine wp_region_noPanic ?_
      refine wp_region_held_drew (S := fun w' => Below (w.heap.size + 2) ((w.alloc (.cells #[.string id, .int .i64 sz, .slice (some ⟨g, 0, none⟩) L.length cap, .int .i64 pl] 56)).alloc (.cells #[.int .u8 (sgAt L i).nm, .int .i64 (sgAt L i).st, .int .i64 (sgAt L i).ln, .bool (decide ((sgAt L i).od = 62)), .bool (decide ((sgAt L i).kd = 115)), .int .u8 (sgAt L i).rl, .int .i64 (sgAt L i).pl] 63)) w') (by kernel_rfl) hb.drew (fun hHeld => ?_)
      clear hb
      refine wpAnyH_take (i := 0) (v := ?_) (at_list rfl) (by kernel_rfl) (by kernel_rfl) (by kernel_rfl) (fun _ _ _ h => h) (Or.inl ⟨by rfl, ?_⟩) (by assumption) ?_
      rotate_left
      · intro w hSw; (try dsimp only at hSw); first | (go_simp; done) | (go_simp; with_reducible rfl)
      try simp only [Act.put]
      try simp only [List.setIfInBounds_toArray]
      try simp only [List.set_cons_succ]
      try simp only [List.set_cons_zero]
      refine wpAnyH_take (i := 1) (v := ?_) (at_list rfl) (by kernel_rfl) (by kernel_rfl) (by kernel_rfl) (fun _ _ _ h => h) (Or.inl ⟨by rfl, ?_⟩) (by assumption) ?_
      rotate_left
      · intro w hSw; (try dsimp only at hSw); first | (go_simp; done) | (go_simp; with_reducible rfl)
      try simp only [Act.put]
      try simp only [List.setIfInBounds_toArray]
      try simp only [List.set_cons_succ]
      try simp only [List.set_cons_zero]
      refine wpAnyH_take (i := 2) (v := ?_) (at_list rfl) (by kernel_rfl) (by kernel_rfl) (by kernel_rfl) (fun _ _ _ h => h) (Or.inl ⟨by rfl, ?_⟩) (by assumption) ?_
      rotate_left
      · intro w hSw; (try dsimp only at hSw); first | (go_simp; done) | (go_simp; with_reducible rfl)
      try simp only [Act.put]
      try simp only [List.setIfInBounds_toArray]
      try simp only [List.set_cons_succ]
      try simp only [List.set_cons_zero]
      refine wpAnyH_take (i := 3) (v := ?_) (at_list rfl) (by kernel_rfl) (by kernel_rfl) (by kernel_rfl) (fun _ _ _ h => h) (Or.inl ⟨by rfl, ?_⟩) (by assumption) ?_
      rotate_left
      · intro w hSw; (try dsimp only at hSw); first | (go_simp; done) | (go_simp; with_reducible rfl)
      try simp only [Act.put]
      try simp only [List.setIfInBounds_toArray]
      try simp only [List.set_cons_succ]
      try simp only [List.set_cons_zero]
      refine wpAnyH_take (i := 4) (v := ?_) (at_list rfl) (by kernel_rfl) (by kernel_rfl) (by kernel_rfl) (fun _ _ _ h => h) (Or.inl ⟨by rfl, ?_⟩) (by assumption) ?_
      rotate_left
      · intro w hSw; (try dsimp only at hSw); first | (go_simp; done) | (go_simp; with_reducible rfl)
      try simp only [Act.put]
      try simp only [List.setIfInBounds_toArray]
      try simp only [List.set_cons_succ]
      try simp only [List.set_cons_zero]
      refine wpAnyH_take (i := 5) (v := ?_) (at_list rfl) (by kernel_rfl) (by kernel_rfl) (by kernel_rfl) (fun _ _ _ h => h) (Or.inl ⟨by rfl, ?_⟩) (by assumption) ?_
      rotate_left
      · intro w hSw; (try dsimp only at hSw); first | (go_simp; done) | (go_simp; with_reducible rfl)
      try simp only [Act.put]
      try simp only [List.setIfInBounds_toArray]
      try simp only [List.set_cons_succ]
      try simp only [List.set_cons_zero]
      refine wpAnyH_take (i := 6) (v := ?_) (at_list rfl) (by kernel_rfl) (by kernel_rfl) (by kernel_rfl) (fun _ _ _ h => h) (Or.inl ⟨by rfl, ?_⟩) (by assumption) ?_
      rotate_left
      · intro w hSw; (try dsimp only at hSw); first | (go_simp; done) | (go_simp; with_reducible rfl)
      try simp only [Act.put]
      try simp only [List.setIfInBounds_toArray]
      try simp only [List.set_cons_succ]
      try simp only [List.set_cons_zero]
      refine wpAnyH_take (i := 7) (v := ?_) (at_list rfl) (by kernel_rfl) (by kernel_rfl) (by kernel_rfl) (fun _ _ _ h => h) (Or.inl ⟨by rfl, ?_⟩) (by assumption) ?_
      rotate_left
      · intro w hSw; (try dsimp only at hSw); first | (go_simp; done) | (go_simp; with_reducible rfl)
      try simp only [Act.put]
      try simp only [List.setIfInBounds_toArray]
      try simp only [List.set_cons_succ]
      try simp only [List.set_cons_zero]
      refine wpAnyH_take (i := 8) (v := ?_) (at_list rfl) (by kernel_rfl) (by kernel_rfl) (by kernel_rfl) (fun _ _ _ h => h) (Or.inl ⟨by rfl, ?_⟩) (by assumption) ?_
      rotate_left
      · intro w hSw; (try dsimp only at hSw); first | (go_simp; done) | (go_simp; with_reducible rfl)
      try simp only [Act.put]
      try simp only [List.setIfInBounds_toArray]
      try simp only [List.set_cons_succ]
      try simp only [List.set_cons_zero]
      refine wpAnyH_done (by kernel_rfl) ?_ _
      refine NoPanic.normal ?_
      clear ck
      by_cases hm : (sgAt L k).nm = (sgAt L i).nm
      · have hmb : ((sgAt L k).nm == (sgAt L i).nm) = true := by simp [hm]
        have HM := hide hm
        clear hm
        go_wp2
        go_ret
        exact ⟨ret_int (by rw [errR, if_pos (anyIx_is (unhide HN) hlt (by simpa using unhide HM))]), box2_below (by assumption)⟩
      · have hmb : ((sgAt L k).nm == (sgAt L i).nm) = false := by simp [hm]
        have HM := hide hm
        clear hm
        go_wp2
        go_roundw
        case rel => exact ⟨k + 1, by omega, by go_num, fun j hj => by
            by_cases e : j = k
            · subst e; simpa using unhide HM
            · exact unhide HN j (by omega), by assumption⟩
        case measure => simp [intOf]; omega
    · have hki : k = i := by omega
      subst hki
      have Q1 := hide (anyIx_none (unhide HN))
      have hbx := hbox _ hb
      go_wp2_with fail
      refine (rMux_any id sz pl _ L _ (ownsRow_below (unhide HL) (box2_below hb)) hl).mono ?_
      rintro e w1 ⟨rfl, hb1⟩
      have hb1' := box2_next hb hb1
      clear hbx hb1 hb
      have hbx := hbox _ hb1'
      go_wp2_with fail
      refine (rIsDigit_any _ _).mono ?_
      rintro e w1 ⟨rfl, rfl⟩
      have hfour : ((sgAt L k).rl = 77 ∧ muxOf L < k) ∨ (isDigB (sgAt L k).rl = true ∧ muxOf L < 0) ∨ ¬ (((sgAt L k).rl = 77 ∧ muxOf L < k) ∨ (isDigB (sgAt L k).rl = true ∧ muxOf L < 0)) := by
        by_cases x : ((sgAt L k).rl = 77 ∧ muxOf L < k)
        · exact .inl x
        · by_cases y : (isDigB (sgAt L k).rl = true ∧ muxOf L < 0)
          · exact .inr (.inl y)
          · exact .inr (.inr (by rintro (z | z); exact x z; exact y z))
      rcases hfour with q2 | q2 | q2
      · have Q := hide (show errR L sz k = 4 by rw [errR, if_neg (by rw [unhide Q1]; simp), if_pos (.inl q2)])
        have qa : ((sgAt L k).rl == 77) = true := by rw [q2.1]; rfl
        have qb := q2.2
        clear q2
        go_wp2
        go_ret
        exact ⟨ret_int (by rw [unhide Q]), box2_below hb1'⟩
      · have Q := hide (show errR L sz k = 4 by rw [errR, if_neg (by rw [unhide Q1]; simp), if_pos (.inr q2)])
        have qa : isDigB (sgAt L k).rl = true := q2.1
        have qb := q2.2
        have qc : ((sgAt L k).rl == 77) = false := by
          cases e : ((sgAt L k).rl == 77) with
          | false => rfl
          | true => have e2 : (sgAt L k).rl = 77 := by simpa using e
                    rw [e2] at qa; cases qa
        clear q2
        go_wp2
        go_ret
        exact ⟨ret_int (by rw [unhide Q]), box2_below hb1'⟩
      · have Q2 := hide q2
        have hways : (((sgAt L k).rl == 77) = true ∧ (k : Int) ≤ muxOf L ∧ isDigB (sgAt L k).rl = false) ∨ (((sgAt L k).rl == 77) = false ∧ isDigB (sgAt L k).rl = false) ∨ (((sgAt L k).rl == 77) = false ∧ isDigB (sgAt L k).rl = true ∧ 0 ≤ muxOf L) := by
          by_cases x : (sgAt L k).rl = 77
          · refine .inl ⟨by rw [x]; rfl, ?_, by rw [x]; rfl⟩
            rcases Int.lt_or_le (muxOf L) k with h' | h'
            · exact absurd (.inl ⟨x, h'⟩) q2
            · exact h'
          · cases e : isDigB (sgAt L k).rl with
            | false => exact .inr (.inl ⟨by simpa using x, rfl⟩)
            | true => refine .inr (.inr ⟨by simpa using x, rfl, ?_⟩)
                      rcases Int.lt_or_le (muxOf L) 0 with h' | h'
                      · exact absurd (.inr ⟨e, h'⟩) q2
                      · exact h'
        clear q2
        have HB1 := hide hb1'
        clear hb1'
        rcases hways with ⟨qa, qb, qc⟩ | ⟨qa, qc⟩ | ⟨qa, qc, qb⟩
        all_goals
          go_wp2
          clear hbx
          go_loopw [9, 10] (fun r _ wr => ∃ m : Nat, (m : Int) ≤ (sgAt L k).ln ∧ r = .int .i64 m ∧ (∀ j, j < m → decide (8 * sz ≤ place (sgAt L k).st (sgAt L k).ln (sgAt L k).od j) = false) ∧ Below (w.heap.size + 2) ((w.alloc (.cells #[.string id, .int .i64 sz, .slice (some ⟨g, 0, none⟩) L.length cap, .int .i64 pl] 56)).alloc (.cells #[.int .u8 (sgAt L k).nm, .int .i64 (sgAt L k).st, .int .i64 (sgAt L k).ln, .bool (decide ((sgAt L k).od = 62)), .bool (decide ((sgAt L k).kd = 115)), .int .u8 (sgAt L k).rl, .int .i64 (sgAt L k).pl] 63)) wr) (fun r _ _ => ((sgAt L k).ln - intOf r).toNat)
          case atStart => exact ⟨0, by omega, rfl, by intro j hj; omega, unhide HB1⟩
          case round =>
            obtain ⟨m, hm, rfl, hno2, hb⟩ := hrel
            have HN2 := hide hno2
            clear hno2
            have hbx := hbox _ hb
            by_cases hlt2 : (m : Int) < (sgAt L k).ln
            · go_wp2_with fail
              refine (rBit_any _ (sgAt L k).st (sgAt L k).ln _ _ m (sgAt L k).od (sgAt L k).kd _ (unhide OKi).st0 (unhide OKi).st1 (unhide OKi).ln0 (unhide OKi).ln1 (unhide OKi).od (by omega) hlt2).mono ?_
              rintro e w2 ⟨rfl, hb2⟩
              have hb2' := box2_next hb hb2
              clear hb2 hb hbx
              have hbx := hbox _ hb2'
              by_cases hre : 8 * sz ≤ place (sgAt L k).st (sgAt L k).ln (sgAt L k).od m
              · go_wp2
                go_ret
                exact ⟨ret_int (by rw [errR, if_neg (by rw [unhide Q1]; simp), if_neg (unhide Q2), if_pos (anyIx_is (unhide HN2) (by omega) (by simpa using hre))]), box2_below hb2'⟩
              · go_wp2
                go_roundw
                case rel => exact ⟨m + 1, by omega, by go_num, fun j hj => by
                    by_cases e : j = m
                    · subst e; simpa using hre
                    · exact unhide HN2 j (by omega), hb2'⟩
                case measure => simp [intOf]; omega
            · have Q4 := hide (anyIx_none (n := (sgAt L k).ln.toNat) (fun j hj => unhide HN2 j (by omega)))
              have HB2 := hide hb
              clear hb
              go_wp2
              clear hbx
              go_loopw [11, 12] (fun r _ wr => ∃ m : Nat, m ≤ k ∧ r = .int .i64 m ∧ (∀ j, j < m → (meetB (sgAt L j).rl (sgAt L k).rl && shareB (sgAt L j) (sgAt L k)) = false) ∧ Below (w.heap.size + 2) ((w.alloc (.cells #[.string id, .int .i64 sz, .slice (some ⟨g, 0, none⟩) L.length cap, .int .i64 pl] 56)).alloc (.cells #[.int .u8 (sgAt L k).nm, .int .i64 (sgAt L k).st, .int .i64 (sgAt L k).ln, .bool (decide ((sgAt L k).od = 62)), .bool (decide ((sgAt L k).kd = 115)), .int .u8 (sgAt L k).rl, .int .i64 (sgAt L k).pl] 63)) wr) (fun r _ _ => k - (intOf r).toNat)
              case atStart => exact ⟨0, by omega, rfl, by intro j hj; omega, unhide HB2⟩
              case round =>
                obtain ⟨n, hn, rfl, hno3, hb⟩ := hrel
                have HN3 := hide hno3
                clear hno3
                by_cases hlt3 : n < k
                · have cn := fun (wx : World) (h : Below (w.heap.size + 2) ((w.alloc (.cells #[.string id, .int .i64 sz, .slice (some ⟨g, 0, none⟩) L.length cap, .int .i64 pl] 56)).alloc (.cells #[.int .u8 (sgAt L k).nm, .int .i64 (sgAt L k).st, .int .i64 (sgAt L k).ln, .bool (decide ((sgAt L k).od = 62)), .bool (decide ((sgAt L k).kd = 115)), .int .u8 (sgAt L k).rl, .int .i64 (sgAt L k).pl] 63)) wx) => rcells7 (k := n) (unhide HC) hg (box2_below h) (by omega)
                  have hi0 : (0 : Int) ≤ (n : Int) := by omega
                  have hi1 : (n : Int) < (L.length : Int) := by omega
                  have OKn := hide (unhide HOK n (by omega))
                  go_wp2
                  refine wp_region_noPanic ?_
                  refine wp_region_held_drew (S := fun w' => Below (w.heap.size + 2) ((w.alloc (.cells #[.string id, .int .i64 sz, .slice (some ⟨g, 0, none⟩) L.length cap, .int .i64 pl] 56)).alloc (.cells #[.int .u8 (sgAt L k).nm, .int .i64 (sgAt L k).st, .int .i64 (sgAt L k).ln, .bool (decide ((sgAt L k).od = 62)), .bool (decide ((sgAt L k).kd = 115)), .int .u8 (sgAt L k).rl, .int .i64 (sgAt L k).pl] 63)) w') (by kernel_rfl) hb.drew (fun hHeld => ?_)
                  clear hb
                  refine wpAnyH_take (i := 0) (v := ?_) (at_list rfl) (by kernel_rfl) (by kernel_rfl) (by kernel_rfl) (fun _ _ _ h => h) (Or.inl ⟨by rfl, ?_⟩) (by assumption) ?_
                  rotate_left
                  · intro w hSw; (try dsimp only at hSw); first | (go_simp; done) | (go_simp; with_reducible rfl)
                  try simp only [Act.put]
                  try simp only [List.setIfInBounds_toArray]
                  try simp only [List.set_cons_succ]
                  try simp only [List.set_cons_zero]
                  refine wpAnyH_take (i := 1) (v := ?_) (at_list rfl) (by kernel_rfl) (by kernel_rfl) (by kernel_rfl) (fun _ _ _ h => h) (Or.inl ⟨by rfl, ?_⟩) (by assumption) ?_
                  rotate_left
                  · intro w hSw; (try dsimp only at hSw); first | (go_simp; done) | (go_simp; with_reducible rfl)
                  try simp only [Act.put]
                  try simp only [List.setIfInBounds_toArray]
                  try simp only [List.set_cons_succ]
                  try simp only [List.set_cons_zero]
                  refine wpAnyH_take (i := 2) (v := ?_) (at_list rfl) (by kernel_rfl) (by kernel_rfl) (by kernel_rfl) (fun _ _ _ h => h) (Or.inl ⟨by rfl, ?_⟩) (by assumption) ?_
                  rotate_left
                  · intro w hSw; (try dsimp only at hSw); first | (go_simp; done) | (go_simp; with_reducible rfl)
                  try simp only [Act.put]
                  try simp only [List.setIfInBounds_toArray]
                  try simp only [List.set_cons_succ]
                  try simp only [List.set_cons_zero]
                  refine wpAnyH_take (i := 3) (v := ?_) (at_list rfl) (by kernel_rfl) (by kernel_rfl) (by kernel_rfl) (fun _ _ _ h => h) (Or.inl ⟨by rfl, ?_⟩) (by assumption) ?_
                  rotate_left
                  · intro w hSw; (try dsimp only at hSw); first | (go_simp; done) | (go_simp; with_reducible rfl)
                  try simp only [Act.put]
                  try simp only [List.setIfInBounds_toArray]
                  try simp only [List.set_cons_succ]
                  try simp only [List.set_cons_zero]
                  refine wpAnyH_take (i := 4) (v := ?_) (at_list rfl) (by kernel_rfl) (by kernel_rfl) (by kernel_rfl) (fun _ _ _ h => h) (Or.inl ⟨by rfl, ?_⟩) (by assumption) ?_
                  rotate_left
                  · intro w hSw; (try dsimp only at hSw); first | (go_simp; done) | (go_simp; with_reducible rfl)
                  try simp only [Act.put]
                  try simp only [List.setIfInBounds_toArray]
                  try simp only [List.set_cons_succ]
                  try simp only [List.set_cons_zero]
                  refine wpAnyH_take (i := 5) (v := ?_) (at_list rfl) (by kernel_rfl) (by kernel_rfl) (by kernel_rfl) (fun _ _ _ h => h) (Or.inl ⟨by rfl, ?_⟩) (by assumption) ?_
                  rotate_left
                  · intro w hSw; (try dsimp only at hSw); first | (go_simp; done) | (go_simp; with_reducible rfl)
                  try simp only [Act.put]
                  try simp only [List.setIfInBounds_toArray]
                  try simp only [List.set_cons_succ]
                  try simp only [List.set_cons_zero]
                  refine wpAnyH_ready (rs := [6]) (by kernel_rfl) (by simp) ?_
                  refine AllReadyH.cons (at_list rfl) (fun K hK => ?_) AllReadyH.nil
                  go_simp
                  refine (rTogether_any (sgAt L n) (sgAt L k) _).mono ?_; rintro e w3 ⟨rfl, hb3⟩; dsimp only
                  refine hK.out _ _ (box2_next hHeld hb3) (fun hHeld => ?_)
                  clear hK K
                  try simp only [Act.put]
                  try simp only [List.setIfInBounds_toArray]
                  try simp only [List.set_cons_succ]
                  try simp only [List.set_cons_zero]
                  refine wpAnyH_take (i := 7) (v := ?_) (at_list rfl) (by kernel_rfl) (by kernel_rfl) (by kernel_rfl) (fun _ _ _ h => h) (Or.inl ⟨by rfl, ?_⟩) (by assumption) ?_
                  rotate_left
                  · intro w hSw; (try dsimp only at hSw); first | (go_simp; done) | (go_simp; with_reducible rfl)
                  try simp only [Act.put]
                  try simp only [List.setIfInBounds_toArray]
                  try simp only [List.set_cons_succ]
                  try simp only [List.set_cons_zero]
                  refine wpAnyH_done (by kernel_rfl) ?_ _
                  refine NoPanic.normal ?_
                  clear hb3
                  cases hme : meetR (sgAt L n).rl (sgAt L k).rl with
                  | false =>
                    have HME := hide (show meetB (sgAt L n).rl (sgAt L k).rl = false from hme)
                    go_wp2
                    refine wp_region_noPanic ?_
                    refine wp_region_held_drew (S := fun w' => Below (w.heap.size + 2) ((w.alloc (.cells #[.string id, .int .i64 sz, .slice (some ⟨g, 0, none⟩) L.length cap, .int .i64 pl] 56)).alloc (.cells #[.int .u8 (sgAt L k).nm, .int .i64 (sgAt L k).st, .int .i64 (sgAt L k).ln, .bool (decide ((sgAt L k).od = 62)), .bool (decide ((sgAt L k).kd = 115)), .int .u8 (sgAt L k).rl, .int .i64 (sgAt L k).pl] 63)) w') (by kernel_rfl) (by exact (Below.drew (by assumption))) (fun hHeld => ?_)
                    refine wpAnyH_take (i := 0) (v := ?_) (at_list rfl) (by kernel_rfl) (by kernel_rfl) (by kernel_rfl) (fun _ _ _ h => h) (Or.inl ⟨by rfl, ?_⟩) (by assumption) ?_
                    rotate_left
                    · intro w hSw; (try dsimp only at hSw); first | (go_simp; done) | (go_simp; with_reducible rfl)
                    try simp only [Act.put]
                    try simp only [List.setIfInBounds_toArray]
                    try simp only [List.set_cons_succ]
                    try simp only [List.set_cons_zero]
                    refine wpAnyH_take (i := 1) (v := ?_) (at_list rfl) (by kernel_rfl) (by kernel_rfl) (by kernel_rfl) (fun _ _ _ h => h) (Or.inl ⟨by rfl, ?_⟩) (by assumption) ?_
                    rotate_left
                    · intro w hSw; (try dsimp only at hSw); first | (go_simp; done) | (go_simp; with_reducible rfl)
                    try simp only [Act.put]
                    try simp only [List.setIfInBounds_toArray]
                    try simp only [List.set_cons_succ]
                    try simp only [List.set_cons_zero]
                    refine wpAnyH_take (i := 2) (v := undef) (at_list rfl) (by kernel_rfl) (by kernel_rfl) (by kernel_rfl) (fun _ _ _ h => h) (Or.inr ⟨by rfl, rfl⟩) (by assumption) ?_
                    try simp only [Act.put]
                    try simp only [List.setIfInBounds_toArray]
                    try simp only [List.set_cons_succ]
                    try simp only [List.set_cons_zero]
                    refine wpAnyH_take (i := 3) (v := undef) (at_list rfl) (by kernel_rfl) (by kernel_rfl) (by kernel_rfl) (fun _ _ _ h => h) (Or.inr ⟨by rfl, rfl⟩) (by assumption) ?_
                    try simp only [Act.put]
                    try simp only [List.setIfInBounds_toArray]
                    try simp only [List.set_cons_succ]
                    try simp only [List.set_cons_zero]
                    refine wpAnyH_take (i := 4) (v := undef) (at_list rfl) (by kernel_rfl) (by kernel_rfl) (by kernel_rfl) (fun _ _ _ h => h) (Or.inr ⟨by rfl, rfl⟩) (by assumption) ?_
                    try simp only [Act.put]
                    try simp only [List.setIfInBounds_toArray]
                    try simp only [List.set_cons_succ]
                    try simp only [List.set_cons_zero]
                    refine wpAnyH_take (i := 5) (v := undef) (at_list rfl) (by kernel_rfl) (by kernel_rfl) (by kernel_rfl) (fun _ _ _ h => h) (Or.inr ⟨by rfl, rfl⟩) (by assumption) ?_
                    try simp only [Act.put]
                    try simp only [List.setIfInBounds_toArray]
                    try simp only [List.set_cons_succ]
                    try simp only [List.set_cons_zero]
                    refine wpAnyH_take (i := 6) (v := undef) (at_list rfl) (by kernel_rfl) (by kernel_rfl) (by kernel_rfl) (fun _ _ _ h => h) (Or.inr ⟨by rfl, rfl⟩) (by assumption) ?_
                    try simp only [Act.put]
                    try simp only [List.setIfInBounds_toArray]
                    try simp only [List.set_cons_succ]
                    try simp only [List.set_cons_zero]
                    refine wpAnyH_take (i := 7) (v := undef) (at_list rfl) (by kernel_rfl) (by kernel_rfl) (by kernel_rfl) (fun _ _ _ h => h) (Or.inr ⟨by rfl, rfl⟩) (by assumption) ?_
                    try simp only [Act.put]
                    try simp only [List.setIfInBounds_toArray]
                    try simp only [List.set_cons_succ]
                    try simp only [List.set_cons_zero]
                    refine wpAnyH_take (i := 8) (v := undef) (at_list rfl) (by kernel_rfl) (by kernel_rfl) (by kernel_rfl) (fun _ _ _ h => h) (Or.inr ⟨by rfl, rfl⟩) (by assumption) ?_
                    try simp only [Act.put]
                    try simp only [List.setIfInBounds_toArray]
                    try simp only [List.set_cons_succ]
                    try simp only [List.set_cons_zero]
                    refine wpAnyH_take (i := 9) (v := ?_) (at_list rfl) (by kernel_rfl) (by kernel_rfl) (by kernel_rfl) (fun _ _ _ h => h) (Or.inl ⟨by rfl, ?_⟩) (by assumption) ?_
                    rotate_left
                    · intro w hSw; (try dsimp only at hSw); first | (go_simp; done) | (go_simp; with_reducible rfl)
                    try simp only [Act.put]
                    try simp only [List.setIfInBounds_toArray]
                    try simp only [List.set_cons_succ]
                    try simp only [List.set_cons_zero]
                    refine wpAnyH_done (by kernel_rfl) ?_ _
                    refine NoPanic.normal ?_
                    clear cn hme
                    go_wp2
                    go_roundw
                    case rel => exact ⟨n + 1, by omega, by go_num, fun j hj => by
                        by_cases e : j = n
                        · subst e; rw [unhide HME]; rfl
                        · exact unhide HN3 j (by omega), by assumption⟩
                    case measure => simp [intOf]; omega
                  | true =>
                    have HME := hide (show meetB (sgAt L n).rl (sgAt L k).rl = true from hme)
                    cases hsh : shareB (sgAt L n) (sgAt L k) with
                    | false =>
                      go_wp2
                      refine wp_region_noPanic ?_
                      refine wp_region_held_drew (S := fun w' => Below (w.heap.size + 2) ((w.alloc (.cells #[.string id, .int .i64 sz, .slice (some ⟨g, 0, none⟩) L.length cap, .int .i64 pl] 56)).alloc (.cells #[.int .u8 (sgAt L k).nm, .int .i64 (sgAt L k).st, .int .i64 (sgAt L k).ln, .bool (decide ((sgAt L k).od = 62)), .bool (decide ((sgAt L k).kd = 115)), .int .u8 (sgAt L k).rl, .int .i64 (sgAt L k).pl] 63)) w') (by kernel_rfl) (by exact (Below.drew (by assumption))) (fun hHeld => ?_)
                      refine wpAnyH_take (i := 0) (v := ?_) (at_list rfl) (by kernel_rfl) (by kernel_rfl) (by kernel_rfl) (fun _ _ _ h => h) (Or.inl ⟨by rfl, ?_⟩) (by assumption) ?_
                      rotate_left
                      · intro w hSw; (try dsimp only at hSw); first | (go_simp; done) | (go_simp; with_reducible rfl)
                      try simp only [Act.put]
                      try simp only [List.setIfInBounds_toArray]
                      try simp only [List.set_cons_succ]
                      try simp only [List.set_cons_zero]
                      refine wpAnyH_take (i := 1) (v := ?_) (at_list rfl) (by kernel_rfl) (by kernel_rfl) (by kernel_rfl) (fun _ _ _ h => h) (Or.inl ⟨by rfl, ?_⟩) (by assumption) ?_
                      rotate_left
                      · intro w hSw; (try dsimp only at hSw); first | (go_simp; done) | (go_simp; with_reducible rfl)
                      try simp only [Act.put]
                      try simp only [List.setIfInBounds_toArray]
                      try simp only [List.set_cons_succ]
                      try simp only [List.set_cons_zero]
                      refine wpAnyH_take (i := 2) (v := ?_) (at_list rfl) (by kernel_rfl) (by kernel_rfl) (by kernel_rfl) (fun _ _ _ h => h) (Or.inl ⟨by rfl, ?_⟩) (by assumption) ?_
                      rotate_left
                      · intro w hSw; (try dsimp only at hSw); first | (go_simp; done) | (go_simp; with_reducible rfl)
                      try simp only [Act.put]
                      try simp only [List.setIfInBounds_toArray]
                      try simp only [List.set_cons_succ]
                      try simp only [List.set_cons_zero]
                      refine wpAnyH_take (i := 3) (v := ?_) (at_list rfl) (by kernel_rfl) (by kernel_rfl) (by kernel_rfl) (fun _ _ _ h => h) (Or.inl ⟨by rfl, ?_⟩) (by assumption) ?_
                      rotate_left
                      · intro w hSw; (try dsimp only at hSw); first | (go_simp; done) | (go_simp; with_reducible rfl)
                      try simp only [Act.put]
                      try simp only [List.setIfInBounds_toArray]
                      try simp only [List.set_cons_succ]
                      try simp only [List.set_cons_zero]
                      refine wpAnyH_take (i := 4) (v := ?_) (at_list rfl) (by kernel_rfl) (by kernel_rfl) (by kernel_rfl) (fun _ _ _ h => h) (Or.inl ⟨by rfl, ?_⟩) (by assumption) ?_
                      rotate_left
                      · intro w hSw; (try dsimp only at hSw); first | (go_simp; done) | (go_simp; with_reducible rfl)
                      try simp only [Act.put]
                      try simp only [List.setIfInBounds_toArray]
                      try simp only [List.set_cons_succ]
                      try simp only [List.set_cons_zero]
                      refine wpAnyH_take (i := 5) (v := ?_) (at_list rfl) (by kernel_rfl) (by kernel_rfl) (by kernel_rfl) (fun _ _ _ h => h) (Or.inl ⟨by rfl, ?_⟩) (by assumption) ?_
                      rotate_left
                      · intro w hSw; (try dsimp only at hSw); first | (go_simp; done) | (go_simp; with_reducible rfl)
                      try simp only [Act.put]
                      try simp only [List.setIfInBounds_toArray]
                      try simp only [List.set_cons_succ]
                      try simp only [List.set_cons_zero]
                      refine wpAnyH_take (i := 6) (v := ?_) (at_list rfl) (by kernel_rfl) (by kernel_rfl) (by kernel_rfl) (fun _ _ _ h => h) (Or.inl ⟨by rfl, ?_⟩) (by assumption) ?_
                      rotate_left
                      · intro w hSw; (try dsimp only at hSw); first | (go_simp; done) | (go_simp; with_reducible rfl)
                      try simp only [Act.put]
                      try simp only [List.setIfInBounds_toArray]
                      try simp only [List.set_cons_succ]
                      try simp only [List.set_cons_zero]
                      refine wpAnyH_take (i := 7) (v := ?_) (at_list rfl) (by kernel_rfl) (by kernel_rfl) (by kernel_rfl) (fun _ _ _ h => h) (Or.inl ⟨by rfl, ?_⟩) (by assumption) ?_
                      rotate_left
                      · intro w hSw; (try dsimp only at hSw); first | (go_simp; done) | (go_simp; with_reducible rfl)
                      try simp only [Act.put]
                      try simp only [List.setIfInBounds_toArray]
                      try simp only [List.set_cons_succ]
                      try simp only [List.set_cons_zero]
                      refine wpAnyH_ready (rs := [8]) (by kernel_rfl) (by simp) ?_
                      refine AllReadyH.cons (at_list rfl) (fun K hK => ?_) AllReadyH.nil
                      go_simp
                      refine (rShares_any (sgAt L n) (sgAt L k) _ (unhide OKn) (unhide OKi)).mono ?_; rintro e w4 ⟨rfl, hb4⟩; dsimp only
                      refine hK.out _ _ (box2_next hHeld hb4) (fun hHeld => ?_)
                      clear hK K
                      try simp only [Act.put]
                      try simp only [List.setIfInBounds_toArray]
                      try simp only [List.set_cons_succ]
                      try simp only [List.set_cons_zero]
                      refine wpAnyH_take (i := 9) (v := ?_) (at_list rfl) (by kernel_rfl) (by kernel_rfl) (by kernel_rfl) (fun _ _ _ h => h) (Or.inl ⟨by rfl, ?_⟩) (by assumption) ?_
                      rotate_left
                      · intro w hSw; (try dsimp only at hSw); first | (go_simp; done) | (go_simp; with_reducible rfl)
                      try simp only [Act.put]
                      try simp only [List.setIfInBounds_toArray]
                      try simp only [List.set_cons_succ]
                      try simp only [List.set_cons_zero]
                      refine wpAnyH_done (by kernel_rfl) ?_ _
                      refine NoPanic.normal ?_
                      have HSH := hide hsh
                      clear cn hme
                      go_wp2
                      go_roundw
                      case rel => exact ⟨n + 1, by omega, by go_num, fun j hj => by
                          by_cases e : j = n
                          · subst e; rw [unhide HSH]; simp
                          · exact unhide HN3 j (by omega), by assumption⟩
                      case measure => simp [intOf]; omega
                    | true =>
                      go_wp2
                      refine wp_region_noPanic ?_
                      refine wp_region_held_drew (S := fun w' => Below (w.heap.size + 2) ((w.alloc (.cells #[.string id, .int .i64 sz, .slice (some ⟨g, 0, none⟩) L.length cap, .int .i64 pl] 56)).alloc (.cells #[.int .u8 (sgAt L k).nm, .int .i64 (sgAt L k).st, .int .i64 (sgAt L k).ln, .bool (decide ((sgAt L k).od = 62)), .bool (decide ((sgAt L k).kd = 115)), .int .u8 (sgAt L k).rl, .int .i64 (sgAt L k).pl] 63)) w') (by kernel_rfl) (by exact (Below.drew (by assumption))) (fun hHeld => ?_)
                      refine wpAnyH_take (i := 0) (v := ?_) (at_list rfl) (by kernel_rfl) (by kernel_rfl) (by kernel_rfl) (fun _ _ _ h => h) (Or.inl ⟨by rfl, ?_⟩) (by assumption) ?_
                      rotate_left
                      · intro w hSw; (try dsimp only at hSw); first | (go_simp; done) | (go_simp; with_reducible rfl)
                      try simp only [Act.put]
                      try simp only [List.setIfInBounds_toArray]
                      try simp only [List.set_cons_succ]
                      try simp only [List.set_cons_zero]
                      refine wpAnyH_take (i := 1) (v := ?_) (at_list rfl) (by kernel_rfl) (by kernel_rfl) (by kernel_rfl) (fun _ _ _ h => h) (Or.inl ⟨by rfl, ?_⟩) (by assumption) ?_
                      rotate_left
                      · intro w hSw; (try dsimp only at hSw); first | (go_simp; done) | (go_simp; with_reducible rfl)
                      try simp only [Act.put]
                      try simp only [List.setIfInBounds_toArray]
                      try simp only [List.set_cons_succ]
                      try simp only [List.set_cons_zero]
                      refine wpAnyH_take (i := 2) (v := ?_) (at_list rfl) (by kernel_rfl) (by kernel_rfl) (by kernel_rfl) (fun _ _ _ h => h) (Or.inl ⟨by rfl, ?_⟩) (by assumption) ?_
                      rotate_left
                      · intro w hSw; (try dsimp only at hSw); first | (go_simp; done) | (go_simp; with_reducible rfl)
                      try simp only [Act.put]
                      try simp only [List.setIfInBounds_toArray]
                      try simp only [List.set_cons_succ]
                      try simp only [List.set_cons_zero]
                      refine wpAnyH_take (i := 3) (v := ?_) (at_list rfl) (by kernel_rfl) (by kernel_rfl) (by kernel_rfl) (fun _ _ _ h => h) (Or.inl ⟨by rfl, ?_⟩) (by assumption) ?_
                      rotate_left
                      · intro w hSw; (try dsimp only at hSw); first | (go_simp; done) | (go_simp; with_reducible rfl)
                      try simp only [Act.put]
                      try simp only [List.setIfInBounds_toArray]
                      try simp only [List.set_cons_succ]
                      try simp only [List.set_cons_zero]
                      refine wpAnyH_take (i := 4) (v := ?_) (at_list rfl) (by kernel_rfl) (by kernel_rfl) (by kernel_rfl) (fun _ _ _ h => h) (Or.inl ⟨by rfl, ?_⟩) (by assumption) ?_
                      rotate_left
                      · intro w hSw; (try dsimp only at hSw); first | (go_simp; done) | (go_simp; with_reducible rfl)
                      try simp only [Act.put]
                      try simp only [List.setIfInBounds_toArray]
                      try simp only [List.set_cons_succ]
                      try simp only [List.set_cons_zero]
                      refine wpAnyH_take (i := 5) (v := ?_) (at_list rfl) (by kernel_rfl) (by kernel_rfl) (by kernel_rfl) (fun _ _ _ h => h) (Or.inl ⟨by rfl, ?_⟩) (by assumption) ?_
                      rotate_left
                      · intro w hSw; (try dsimp only at hSw); first | (go_simp; done) | (go_simp; with_reducible rfl)
                      try simp only [Act.put]
                      try simp only [List.setIfInBounds_toArray]
                      try simp only [List.set_cons_succ]
                      try simp only [List.set_cons_zero]
                      refine wpAnyH_take (i := 6) (v := ?_) (at_list rfl) (by kernel_rfl) (by kernel_rfl) (by kernel_rfl) (fun _ _ _ h => h) (Or.inl ⟨by rfl, ?_⟩) (by assumption) ?_
                      rotate_left
                      · intro w hSw; (try dsimp only at hSw); first | (go_simp; done) | (go_simp; with_reducible rfl)
                      try simp only [Act.put]
                      try simp only [List.setIfInBounds_toArray]
                      try simp only [List.set_cons_succ]
                      try simp only [List.set_cons_zero]
                      refine wpAnyH_take (i := 7) (v := ?_) (at_list rfl) (by kernel_rfl) (by kernel_rfl) (by kernel_rfl) (fun _ _ _ h => h) (Or.inl ⟨by rfl, ?_⟩) (by assumption) ?_
                      rotate_left
                      · intro w hSw; (try dsimp only at hSw); first | (go_simp; done) | (go_simp; with_reducible rfl)
                      try simp only [Act.put]
                      try simp only [List.setIfInBounds_toArray]
                      try simp only [List.set_cons_succ]
                      try simp only [List.set_cons_zero]
                      refine wpAnyH_ready (rs := [8]) (by kernel_rfl) (by simp) ?_
                      refine AllReadyH.cons (at_list rfl) (fun K hK => ?_) AllReadyH.nil
                      go_simp
                      refine (rShares_any (sgAt L n) (sgAt L k) _ (unhide OKn) (unhide OKi)).mono ?_; rintro e w4 ⟨rfl, hb4⟩; dsimp only
                      refine hK.out _ _ (box2_next hHeld hb4) (fun hHeld => ?_)
                      clear hK K
                      try simp only [Act.put]
                      try simp only [List.setIfInBounds_toArray]
                      try simp only [List.set_cons_succ]
                      try simp only [List.set_cons_zero]
                      refine wpAnyH_take (i := 9) (v := ?_) (at_list rfl) (by kernel_rfl) (by kernel_rfl) (by kernel_rfl) (fun _ _ _ h => h) (Or.inl ⟨by rfl, ?_⟩) (by assumption) ?_
                      rotate_left
                      · intro w hSw; (try dsimp only at hSw); first | (go_simp; done) | (go_simp; with_reducible rfl)
                      try simp only [Act.put]
                      try simp only [List.setIfInBounds_toArray]
                      try simp only [List.set_cons_succ]
                      try simp only [List.set_cons_zero]
                      refine wpAnyH_done (by kernel_rfl) ?_ _
                      refine NoPanic.normal ?_
                      have HSH := hide hsh
                      clear cn hme
                      go_wp2
                      go_ret
                      exact ⟨ret_int (by rw [errR, if_neg (by rw [unhide Q1]; simp), if_neg (unhide Q2), if_neg (by rw [unhide Q4]; simp), if_pos (anyIx_is (unhide HN3) hlt3 (by rw [unhide HME, unhide HSH]; rfl))]), box2_below (by assumption)⟩
                · have hnk : n = k := by omega
                  go_wp2
                  go_ret
                  exact ⟨ret_int (by rw [errR, if_neg (by rw [unhide Q1]; simp), if_neg (unhide Q2), if_neg (by rw [unhide Q4]; simp), if_neg (by rw [anyIx_none (fun j hj => unhide HN3 j (by omega))]; simp)]), box2_below hb⟩

end Go.Proofs.Ytljodhcfimklkab
