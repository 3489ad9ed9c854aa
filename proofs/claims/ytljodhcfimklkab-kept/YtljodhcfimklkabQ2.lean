import Derived.Test.YtljodhcfimklkabQ1
namespace Go.Proofs.Ytljodhcfimklkab
open Go.RowKit

theorem Try.infoRSig : (Try.prog.info? 63).map (fun i => (i.zero, i.size, i.bytes)) = some (some (.agg #[.int .u8 0, .int .i64 0, .int .i64 0, .bool false, .bool false, .int .u8 0, .int .i64 0]), 7, 40) := by kernel_rfl

def RMsgOut (s : ByteArray) (i : Nat) (e : Ending) (w' : World) : Prop :=
  match pMsg s i with
  | .inl p => e = .returned (.tuple #[.agg #[.string { data := #[] }, .int .i64 0, .slice none 0 0, .int .i64 0], .int .i64 p, .bool false])
  | .inr (m, q) => ∃ sv, e = .returned (.tuple #[.agg #[.string m.id, .int .i64 m.sz, sv, .int .i64 m.pl], .int .i64 q, .bool true]) ∧ RSigsAt w' sv m.sigs

theorem RMsgOut_bad {s : ByteArray} {i p : Nat} {w' : World} {q : Int} (h : pMsg s i = .inl p) (hq : q = p) : RMsgOut s i (.returned (.tuple #[.agg #[.string { data := #[] }, .int .i64 0, .slice none 0 0, .int .i64 0], .int .i64 q, .bool false])) w' := by
  unfold RMsgOut; rw [h, hq]
theorem RMsgOut_good {s : ByteArray} {i q : Nat} {l : List Sg} {w' : World} {sv : Value} {sz : Int} (h : pMsg s i = .inr (mkMsg s i l, q)) (hsz : sz = bt s (i + 3) - 48) (hs : RSigsAt w' sv l) :
    RMsgOut s i (.returned (.tuple #[.agg #[.string (s.extract i (i + 3)), .int .i64 sz, sv, .int .i64 i], .int .i64 q, .bool true])) w' := by
  unfold RMsgOut; rw [h, hsz]; exact ⟨sv, rfl, hs⟩

theorem rSigOut_no {s : ByteArray} {i n : Nat} (hn : n = nSig s i) (h : nSig s i < 9) : rSigOut s i = .tuple #[.agg #[.int .u8 0, .int .i64 0, .int .i64 0, .bool false, .bool false, .int .u8 0, .int .i64 0], .int .i64 (i + n), .bool false] := by
  rw [rSigOut, if_pos h, ← hn]; simp [rZeroSig]
theorem rSigOut_yes {s : ByteArray} {i : Nat} (h : ¬ nSig s i < 9) : rSigOut s i = .tuple #[.agg #[.int .u8 (mkSig s i).nm, .int .i64 (mkSig s i).st, .int .i64 (mkSig s i).ln, .bool (decide ((mkSig s i).od = 62)), .bool (decide ((mkSig s i).kd = 115)), .int .u8 (mkSig s i).rl, .int .i64 (mkSig s i).pl], .int .i64 (i + 9), .bool true] := by
  rw [rSigOut, if_neg h]; simp

set_option maxRecDepth 100000 in
set_option maxHeartbeats 4000000 in
theorem rMessage_any (s : ByteArray) (i : Nat) (w : World) (hs : s.size ≤ 140737488351232) (hi : i ≤ s.size + 1) :
    Calls Try.prog 47 #[.string s, .int .i64 i] w fun e w' => RMsgOut s i e w' ∧ Below w.heap.size w w' := by
  obtain ⟨i0, hinf, hz0, hz1, hz2⟩ := info_parts Try.infoRSig
  have HINF := hide hinf
  have HZ0 := hide hz0
  have HZ1 := hide hz1
  have HZ2 := hide hz2
  clear hinf hz0 hz1 hz2
  go_enter Try.func47, Try.ntmps47
  go_wp2
  go_loop [7, 8] (fun r _ => ∃ k : Nat, k ≤ 4 ∧ r = .int .i64 k ∧ ∀ j, j < k → (!headOk s i j) = false) (fun r _ => 4 - (intOf r).toNat)
  case atStart => exact ⟨0, by omega, rfl, by intro j hj; omega⟩
  case round =>
    obtain ⟨k, hk, rfl, hno⟩ := hrel
    have HN := hide hno
    clear hno
    by_cases hlt : k < 4
    · by_cases h2 : i + k < s.size
      · have e := bt_of h2
        cases hb : headB k (bt s (i + k)) with
        | false =>
          have hv : headB k (s[i + k].toNat : Int) = false := by rw [e]; exact hb
          have HK := hide (show (!headOk s i k) = true by simp [headOk, hb])
          clear e hb
          go_wp2_with (go_at_call 53; refine (rHeaded_any _ _ _ (by omega) (by omega)).mono ?_; rintro e w' ⟨rfl, rfl⟩)
          have hN : nHead s i = k := firstIx_is (unhide HN) hlt (unhide HK)
          exact bodyPost_ret (v := .tuple #[.agg #[.string { data := #[] }, .int .i64 0, .slice none 0 0, .int .i64 0], .int .i64 (i + k), .bool false]) (by simp [results, Try.results47, go_sem]) rfl ⟨RMsgOut_bad (p := i + k) (by rw [pMsg, hN, if_pos hlt]) (by simp), (Below.refl _ _).alloc (Nat.le_refl _) _⟩
        | true =>
          have hv : headB k (s[i + k].toNat : Int) = true := by rw [e]; exact hb
          have HK := hide (show (!headOk s i k) = false by simp [headOk, hb, h2])
          clear e hb
          go_wp2_with (go_at_call 53; refine (rHeaded_any _ _ _ (by omega) (by omega)).mono ?_; rintro e w' ⟨rfl, rfl⟩)
          go_round
          case rel => exact ⟨k + 1, by omega, by go_num, fun j hj => by
            by_cases e : j = k
            · subst e; exact unhide HK
            · exact unhide HN j (by omega)⟩
          case measure => simp [intOf]; omega
      · have HK := hide (show (!headOk s i k) = true by simp [headOk, h2])
        go_wp2
        have hN : nHead s i = k := firstIx_is (unhide HN) hlt (unhide HK)
        exact bodyPost_ret (v := .tuple #[.agg #[.string { data := #[] }, .int .i64 0, .slice none 0 0, .int .i64 0], .int .i64 (i + k), .bool false]) (by simp [results, Try.results47, go_sem]) rfl ⟨RMsgOut_bad (p := i + k) (by rw [pMsg, hN, if_pos hlt]) (by simp), (Below.refl _ _).alloc (Nat.le_refl _) _⟩
    · have hk4 : k = 4 := by omega
      subst hk4
      have hn : ¬ nHead s i < 4 := by rw [nHead, firstIx_none (unhide HN)]; omega
      have hall := nHead_full hn
      have h3 := (hall 3 (by omega)).1
      have h3b := (hall 3 (by omega)).2
      rw [← bt_of h3] at h3b
      simp [headB] at h3b
      obtain ⟨h3c, h3d⟩ := h3b
      have y0 : (0 : Int) ≤ (i : Int) := by omega
      have y3 : (0 : Int) ≤ (i : Int) + 3 := by omega
      have z3 : (i : Int) + 3 < (s.size : Int) := by omega
      have z4 : (i : Int) + 3 ≤ (s.size : Int) := by omega
      have x3 : IntKind.i64.wrap ((i : Int) + 3) = (i : Int) + 3 := by rw [IntKind.wrap_i64]; omega
      have hu : IntKind.u8.wrap ((s[i + 3].toNat : Int) - 48) = (s[i + 3].toNat : Int) - 48 := by rw [IntKind.wrap_u8]; omega
      obtain ⟨sz, HSZ⟩ : ∃ z : Int, Hid (z = (s[i + 3].toNat : Int) - 48) := ⟨_, hide rfl⟩
      have hv : IntKind.i64.wrap ((s[i + 3].toNat : Int) - 48) = sz := by rw [unhide HSZ, IntKind.wrap_i64]; omega
      have z5 : (i : Int) ≤ (i : Int) + 3 := by omega
      have z6 : ((i : Int) + 3).toNat = i + 3 := by omega
      have HNH := hide hn
      have HALL := hide hall
      clear hn hall
      go_wp2
      refine wp_region_noPanic ?_
      refine wp_region_held_drew (S := fun _ => True) (by kernel_rfl) trivial (fun hHeld => ?_)
      refine wpAnyH_take (i := 0) (v := ?_) (at_list rfl) (by kernel_rfl) (by kernel_rfl) (by kernel_rfl) (fun _ _ _ h => h) (Or.inl ⟨by rfl, ?_⟩) (by assumption) ?_
      rotate_left
      · intro w hSw; (try dsimp only at hSw); first | (go_simp; done) | (go_simp; with_reducible rfl)
      try simp only [Act.put]
      try simp only [List.setIfInBounds_toArray]
      try simp only [List.set_cons_succ]
      try simp only [List.set_cons_zero]
      refine wpAnyH_take (i := 1) (v := ?_) (at_list rfl) (by kernel_rfl) (by kernel_rfl) (by kernel_rfl) (fun _ _ _ h => h) (Or.inl ⟨by rfl, ?_⟩) (by assumption) ?_
      rotate_left
      · intro w hSw; (try dsimp only at hSw); first | (go_simp; done) | (go_simp; with_reducible rfl)
      try simp only [Act.put]
      try simp only [List.setIfInBounds_toArray]
      try simp only [List.set_cons_succ]
      try simp only [List.set_cons_zero]
      refine wpAnyH_take (i := 2) (v := ?_) (at_list rfl) (by kernel_rfl) (by kernel_rfl) (by kernel_rfl) (fun _ _ _ h => h) (Or.inl ⟨by rfl, ?_⟩) (by assumption) ?_
      rotate_left
      · intro w hSw; (try dsimp only at hSw); first | (go_simp; done) | (go_simp; with_reducible rfl)
      try simp only [Act.put]
      try simp only [List.setIfInBounds_toArray]
      try simp only [List.set_cons_succ]
      try simp only [List.set_cons_zero]
      refine wpAnyH_take (i := 3) (v := ?_) (at_list rfl) (by kernel_rfl) (by kernel_rfl) (by kernel_rfl) (fun _ _ _ h => h) (Or.inl ⟨by rfl, ?_⟩) (by assumption) ?_
      rotate_left
      · intro w hSw; (try dsimp only at hSw); first | (go_simp; done) | (go_simp; with_reducible rfl)
      try simp only [Act.put]
      try simp only [List.setIfInBounds_toArray]
      try simp only [List.set_cons_succ]
      try simp only [List.set_cons_zero]
      refine wpAnyH_take (i := 4) (v := ?_) (at_list rfl) (by kernel_rfl) (by kernel_rfl) (by kernel_rfl) (fun _ _ _ h => h) (Or.inl ⟨by rfl, ?_⟩) (by assumption) ?_
      rotate_left
      · intro w hSw; (try dsimp only at hSw); first | (go_simp; done) | (go_simp; with_reducible rfl)
      try simp only [Act.put]
      try simp only [List.setIfInBounds_toArray]
      try simp only [List.set_cons_succ]
      try simp only [List.set_cons_zero]
      refine wpAnyH_take (i := 5) (v := ?_) (at_list rfl) (by kernel_rfl) (by kernel_rfl) (by kernel_rfl) (fun _ _ _ h => h) (Or.inl ⟨by rfl, ?_⟩) (by assumption) ?_
      rotate_left
      · intro w hSw; (try dsimp only at hSw); first | (go_simp; done) | (go_simp; with_reducible rfl)
      try simp only [Act.put]
      try simp only [List.setIfInBounds_toArray]
      try simp only [List.set_cons_succ]
      try simp only [List.set_cons_zero]
      refine wpAnyH_take (i := 6) (v := ?_) (at_list rfl) (by kernel_rfl) (by kernel_rfl) (by kernel_rfl) (fun _ _ _ h => h) (Or.inl ⟨by rfl, ?_⟩) (by assumption) ?_
      rotate_left
      · intro w hSw; (try dsimp only at hSw); first | (go_simp; done) | (go_simp; with_reducible rfl)
      try simp only [Act.put]
      try simp only [List.setIfInBounds_toArray]
      try simp only [List.set_cons_succ]
      try simp only [List.set_cons_zero]
      refine wpAnyH_take (i := 7) (v := ?_) (at_list rfl) (by kernel_rfl) (by kernel_rfl) (by kernel_rfl) (fun _ _ _ h => h) (Or.inl ⟨by rfl, ?_⟩) (by assumption) ?_
      rotate_left
      · intro w hSw; (try dsimp only at hSw); first | (go_simp; done) | (go_simp; with_reducible rfl)
      try simp only [Act.put]
      try simp only [List.setIfInBounds_toArray]
      try simp only [List.set_cons_succ]
      try simp only [List.set_cons_zero]
      refine wpAnyH_take (i := 8) (v := ?_) (at_list rfl) (by kernel_rfl) (by kernel_rfl) (by kernel_rfl) (fun _ _ _ h => h) (Or.inl ⟨by rfl, ?_⟩) (by assumption) ?_
      rotate_left
      · intro w hSw; (try dsimp only at hSw); first | (go_simp; done) | (go_simp; with_reducible rfl)
      try simp only [Act.put]
      try simp only [List.setIfInBounds_toArray]
      try simp only [List.set_cons_succ]
      try simp only [List.set_cons_zero]
      refine wpAnyH_take (i := 9) (v := ?_) (at_list rfl) (by kernel_rfl) (by kernel_rfl) (by kernel_rfl) (fun _ _ _ h => h) (Or.inl ⟨by rfl, ?_⟩) (by assumption) ?_
      rotate_left
      · intro w hSw; (try dsimp only at hSw); first | (go_simp; done) | (go_simp; with_reducible rfl)
      try simp only [Act.put]
      try simp only [List.setIfInBounds_toArray]
      try simp only [List.set_cons_succ]
      try simp only [List.set_cons_zero]
      refine wpAnyH_take (i := 10) (v := ?_) (at_list rfl) (by kernel_rfl) (by kernel_rfl) (by kernel_rfl) (fun _ _ _ h => h) (Or.inl ⟨by rfl, ?_⟩) (by assumption) ?_
      rotate_left
      · intro w hSw; (try dsimp only at hSw); first | (go_simp; done) | (go_simp; with_reducible rfl)
      try simp only [Act.put]
      try simp only [List.setIfInBounds_toArray]
      try simp only [List.set_cons_succ]
      try simp only [List.set_cons_zero]
      refine wpAnyH_take (i := 11) (v := ?_) (at_list rfl) (by kernel_rfl) (by kernel_rfl) (by kernel_rfl) (fun _ _ _ h => h) (Or.inl ⟨by rfl, ?_⟩) (by assumption) ?_
      rotate_left
      · intro w hSw; (try dsimp only at hSw); first | (go_simp; done) | (go_simp; with_reducible rfl)
      try simp only [Act.put]
      try simp only [List.setIfInBounds_toArray]
      try simp only [List.set_cons_succ]
      try simp only [List.set_cons_zero]
      refine wpAnyH_take (i := 12) (v := ?_) (at_list rfl) (by kernel_rfl) (by kernel_rfl) (by kernel_rfl) (fun _ _ _ h => h) (Or.inl ⟨by rfl, ?_⟩) (by assumption) ?_
      rotate_left
      · intro w hSw; (try dsimp only at hSw); first | (go_simp; done) | (go_simp; with_reducible rfl)
      try simp only [Act.put]
      try simp only [List.setIfInBounds_toArray]
      try simp only [List.set_cons_succ]
      try simp only [List.set_cons_zero]
      refine wpAnyH_ready (rs := [13]) (by kernel_rfl) (by simp) ?_
      refine AllReadyH.cons (at_list rfl) (fun K hK => ?_) AllReadyH.nil
      go_simp
      refine hK.out _ _ (trivial) (fun hHeld => ?_)
      clear hK K
      try simp only [Act.put]
      try simp only [List.setIfInBounds_toArray]
      try simp only [List.set_cons_succ]
      try simp only [List.set_cons_zero]
      refine wpAnyH_ready (rs := [14]) (by kernel_rfl) (by simp) ?_
      refine AllReadyH.cons (at_list rfl) (fun K hK => ?_) AllReadyH.nil
      go_simp
      refine hK.out _ _ (trivial) (fun hHeld => ?_)
      clear hK K
      try simp only [Act.put]
      try simp only [List.setIfInBounds_toArray]
      try simp only [List.set_cons_succ]
      try simp only [List.set_cons_zero]
      refine wpAnyH_done (by kernel_rfl) ?_ _
      refine NoPanic.normal ?_
      clear x3 hu hv z5
      go_wp2
      go_loopw [1, 10, 11, 12] (fun a _ _ _ wr => ∃ (p : Nat) (acc : List Sg) (sv : Value), a = .int .i64 p ∧ p ≤ s.size ∧ acc.length ≤ 8 ∧ wr.heap[w.heap.size]? = some (.cells #[.string { data := #[] }, .int .i64 0, .slice none 0 0, .int .i64 0] 56 (0, 0)) ∧
          wr.heap[w.heap.size + 1]? = some (.cells #[.string (s.extract i (i + 3)), .int .i64 sz, sv, .int .i64 i] 56 (0, 0)) ∧ wr.ownsRow (w.heap.size + 2) 63 7 sv acc.length (acc.flatMap Sg.rcells) ∧
          Below w.heap.size w wr ∧ glue acc (pSigs s (8 - acc.length) p) = pSigs s 8 (i + 4)) (fun a _ _ _ _ => s.size + 10 - (intOf a).toNat)
      case atStart => exact ⟨i + 4, [], .slice none 0 0, by simp, by omega, by simp, by exact blk_alloc (blk_new _ _), by exact new_two _ _ _, World.ownsRow_nil _ _ _ _, (((Below.refl _ _).alloc (Nat.le_refl _) _).alloc (by simp) _).drew, glue_nil _⟩
      case round =>
        obtain ⟨p, acc, sv, rfl, hp, hacc, hB0, hB1, hown, hbel, hgl⟩ := hrel
        obtain ⟨sa, cap, rfl⟩ := ownsRow_form hown
        have HB0 := hide hB0
        have HB1 := hide hB1
        have HOWN := hide hown
        have HBEL := hide hbel
        have HGL := hide hgl
        clear hB0 hB1 hown hbel hgl
        have hc3 : wr.cell? ⟨w.heap.size + 1, 2, none⟩ = some (.slice sa acc.length cap) := blk_cell (unhide HB1) 2
        by_cases hgo : acc.length < 8 ∧ p < s.size ∧ bt s p = 44
        · obtain ⟨ha8, hps, h44⟩ := hgo
          have e44 : ((s[p].toNat : Int) == 44) = true := by rw [bt_of hps, h44]; rfl
          have H44 := hide h44
          clear h44
          by_cases hns : nSig s p < 9
          · obtain ⟨n9, HN9⟩ : ∃ n, Hid (n = nSig s p) := ⟨_, hide rfl⟩
            have hns' : (n9 : Int) < 9 := by rw [← unhide HN9] at hns; omega
            have HFIN := hide (show pMsg s i = .inl (p + n9) by rw [pMsg_sigs (unhide HNH), ← unhide HGL, glue_bad (by omega) ⟨hps, unhide H44⟩ hns, unhide HN9])
            have HSO := hide (rSigOut_no (unhide HN9) hns)
            clear hns
            go_wp2_with fail
            refine (rSignal_any s p _ hs (by omega)).mono ?_
            rintro e w2 ⟨rfl, hb2⟩
            rw [unhide HSO]
            have HB0' := hide (blk_below (unhide HB0) hb2)
            have HBEL' := hide ((unhide HBEL).trans (hb2.mono (unhide HBEL).size))
            clear hb2 hc3
            have f0 : w2.frozen? ⟨w.heap.size, 0, none⟩ = false := blk_free (unhide HB0') 0
            have f1 : w2.frozen? ⟨w.heap.size, 1, none⟩ = false := blk_free (unhide HB0') 1
            have f2 : w2.frozen? ⟨w.heap.size, 2, none⟩ = false := blk_free (unhide HB0') 2
            have f3 : w2.frozen? ⟨w.heap.size, 3, none⟩ = false := blk_free (unhide HB0') 3
            have b0 : w2.cell? ⟨w.heap.size, 0, none⟩ = some (.string { data := #[] }) := blk_cell (unhide HB0') 0
            have b1 : w2.cell? ⟨w.heap.size, 1, none⟩ = some (.int .i64 0) := blk_cell (unhide HB0') 1
            have b2 : w2.cell? ⟨w.heap.size, 2, none⟩ = some (.slice none 0 0) := blk_cell (unhide HB0') 2
            have b3 : w2.cell? ⟨w.heap.size, 3, none⟩ = some (.int .i64 0) := blk_cell (unhide HB0') 3
            have hlt1 : w.heap.size < w2.heap.size := blk_lt (unhide HB0')
            go_wp2
            exact bodyPost_ret (v := .tuple #[.agg #[.string { data := #[] }, .int .i64 0, .slice none 0 0, .int .i64 0], .int .i64 (p + n9), .bool false]) (by simp [results, Try.results47, go_sem, b0, b1, b2, b3, hlt1]) rfl ⟨RMsgOut_bad (unhide HFIN) (by simp), (set4_below (unhide HBEL') _ _ _ _).alloc (set4_below (unhide HBEL') _ _ _ _).size _⟩
          · have HNS := hide hns
            have h8 := (nSig_full hns 8 (by omega)).1
            clear hns
            go_wp2_with fail
            refine (rSignal_any s p _ hs (by omega)).mono ?_
            rintro e w2 ⟨rfl, hb2⟩
            rw [rSigOut_yes (unhide HNS)]
            have HB0' := hide (blk_below (unhide HB0) hb2)
            have HB1' := hide (blk_below (unhide HB1) hb2)
            have HOWN' := hide (ownsRow_bel (unhide HOWN) hb2)
            have HBEL' := hide ((unhide HBEL).trans (hb2.mono (unhide HBEL).size))
            clear hc3 hb2
            have hc3 : w2.cell? ⟨w.heap.size + 1, 2, none⟩ = some (.slice sa acc.length cap) := blk_cell (unhide HB1') 2
            have hlt1 : w.heap.size + 1 < w2.heap.size := blk_lt (unhide HB1')
            have hf3 : w2.frozen? ⟨w.heap.size + 1, 2, none⟩ = false := blk_free (unhide HB1') 2
            go_wp2_with (at_builtin; refine wpList_append_own _ rfl _ _ 54 rfl (w.heap.size + 2) 63 i0 _ 7 40 Try.underlying54 (unhide HINF) (unhide HZ0) (unhide HZ1) (unhide HZ2) rfl (by decide) _ _ _ rfl (((unhide HOWN').alloc _).alloc _) ⟨w2.heap.size + 1, 0, none⟩ 1 1 (mkSig s p).rcells rfl rfl ?c1 ?c2 ?c3 ?c4 ?c5 ?_)
            case c1 => exact new_cells (new_two _ _ _)
            case c2 => simp [Sg.rcells, Value.oneCell']
            case c3 => unfold maxLen; omega
            case c4 => omega
            case c5 => simp; omega
            intro v3 w3 hown3 hgrow _
            obtain ⟨a3, cap3, rfl⟩ := ownsRow_form hown3
            have hne : ∀ b, b < w.heap.size + 2 → some b ≠ (Value.slice sa acc.length cap).ownBlock := by
              intro b hb e
              have := (unhide HOWN').lt b e.symm
              omega
            have HB0'' := hide (blk_grown (blk_alloc (blk_alloc (unhide HB0'))) hgrow (hne _ (by omega)))
            have HB1'' := hide (blk_grown (blk_alloc (blk_alloc (unhide HB1'))) hgrow (hne _ (by omega)))
            have HBEL'' := hide (Below.grown (((unhide HBEL').alloc (by have := (unhide HBEL').size; omega) _).alloc (by have := (unhide HBEL').size; simp; omega) _) hgrow (by have := (unhide HBEL').size; simp; omega) (fun k hk => by have := (unhide HOWN').lt k hk; omega))
            have HOWN3 := hide hown3
            clear hown3 hgrow hne hc3 hf3 hlt1
            have hc3 : w3.cell? ⟨w.heap.size + 1, 2, none⟩ = some (.slice sa acc.length cap) := blk_cell (unhide HB1'') 2
            have hf3 : w3.frozen? ⟨w.heap.size + 1, 2, none⟩ = false := blk_free (unhide HB1'') 2
            go_wp2
            go_roundw
            case rel =>
              refine ⟨p + 9, acc ++ [mkSig s p], .slice a3 (acc.length + 1) cap3, by go_num, by omega, by simp; omega, blk_set_other _ (unhide HB0'') (by omega), blk_set (unhide HB1'') 2 _, ?_, (unhide HBEL'').setCell (by simp) _, ?_⟩
              · have := ownsRow_setCell_below (unhide HOWN3) (a := ⟨w.heap.size + 1, 2, none⟩) (by simp) (.slice a3 (acc.length + 1) cap3)
                simpa [List.flatMap_append] using this
              · rw [← unhide HGL, glue_step (by omega) ⟨hps, unhide H44⟩ (unhide HNS), List.length_append]
                congr 2
            case measure => simp [intOf]; omega
        · have hend : glue acc (pSigs s (8 - acc.length) p) = .inr (acc, p) := glue_stop (by
            by_cases h1 : acc.length < 8
            · exact .inr (fun h => hgo ⟨h1, h⟩)
            · exact .inl (by omega))
          have hfin : pMsg s i = .inr (mkMsg s i acc, p) := by rw [pMsg_sigs (unhide HNH), ← unhide HGL, hend]
          have HFIN := hide hfin
          clear hend hfin
          have hz : sz = bt s (i + 3) - 48 := by
            rw [unhide HSZ, bt_of h3]
          have HZ := hide hz
          clear hz
          have hways : ((s.size : Int) ≤ (p : Int)) ∨ (p < s.size ∧ bt s p ≠ 44) ∨ (p < s.size ∧ bt s p = 44 ∧ (8 : Int) ≤ (acc.length : Int)) := by
            by_cases h2 : p < s.size
            · by_cases h1 : bt s p = 44
              · exact .inr (.inr ⟨h2, h1, by rcases Nat.lt_or_ge acc.length 8 with h | h; exact absurd ⟨h, h2, h1⟩ hgo; omega⟩)
              · exact .inr (.inl ⟨h2, h1⟩)
            · exact .inl (by omega)
          clear hgo
          have d0 : wr.cell? ⟨w.heap.size + 1, 0, none⟩ = some (.string (s.extract i (i + 3))) := blk_cell (unhide HB1) 0
          have d1 : wr.cell? ⟨w.heap.size + 1, 1, none⟩ = some (.int .i64 sz) := blk_cell (unhide HB1) 1
          have d3 : wr.cell? ⟨w.heap.size + 1, 3, none⟩ = some (.int .i64 i) := blk_cell (unhide HB1) 3
          have f0 : wr.frozen? ⟨w.heap.size, 0, none⟩ = false := blk_free (unhide HB0) 0
          have f1 : wr.frozen? ⟨w.heap.size, 1, none⟩ = false := blk_free (unhide HB0) 1
          have f2 : wr.frozen? ⟨w.heap.size, 2, none⟩ = false := blk_free (unhide HB0) 2
          have f3 : wr.frozen? ⟨w.heap.size, 3, none⟩ = false := blk_free (unhide HB0) 3
          have b0 : wr.cell? ⟨w.heap.size, 0, none⟩ = some (.string { data := #[] }) := blk_cell (unhide HB0) 0
          have b1 : wr.cell? ⟨w.heap.size, 1, none⟩ = some (.int .i64 0) := blk_cell (unhide HB0) 1
          have b2 : wr.cell? ⟨w.heap.size, 2, none⟩ = some (.slice none 0 0) := blk_cell (unhide HB0) 2
          have b3 : wr.cell? ⟨w.heap.size, 3, none⟩ = some (.int .i64 0) := blk_cell (unhide HB0) 3
          rcases hways with hq | ⟨hq, hq2⟩ | ⟨hq, hq2, hq3⟩
          · go_wp2
            exact bodyPost_ret (v := .tuple #[.agg #[.string (s.extract i (i + 3)), .int .i64 sz, .slice sa acc.length cap, .int .i64 i], .int .i64 p, .bool true]) (by simp [results, Try.results47, go_sem, b0, b1, b2, b3]) rfl ⟨RMsgOut_good (unhide HFIN) (unhide HZ) (set4_owns (unhide HOWN) _ _ _ _), set4_below (unhide HBEL) _ _ _ _⟩
          · have hq4 : ((s[p].toNat : Int) == 44) = false := by rw [bt_of hq]; simpa using hq2
            clear hq2
            go_wp2
            exact bodyPost_ret (v := .tuple #[.agg #[.string (s.extract i (i + 3)), .int .i64 sz, .slice sa acc.length cap, .int .i64 i], .int .i64 p, .bool true]) (by simp [results, Try.results47, go_sem, b0, b1, b2, b3]) rfl ⟨RMsgOut_good (unhide HFIN) (unhide HZ) (set4_owns (unhide HOWN) _ _ _ _), set4_below (unhide HBEL) _ _ _ _⟩
          · have hq4 : ((s[p].toNat : Int) == 44) = true := by rw [bt_of hq, hq2]; rfl
            clear hq2
            go_wp2
            exact bodyPost_ret (v := .tuple #[.agg #[.string (s.extract i (i + 3)), .int .i64 sz, .slice sa acc.length cap, .int .i64 i], .int .i64 p, .bool true]) (by simp [results, Try.results47, go_sem, b0, b1, b2, b3]) rfl ⟨RMsgOut_good (unhide HFIN) (unhide HZ) (set4_owns (unhide HOWN) _ _ _ _), set4_below (unhide HBEL) _ _ _ _⟩

end Go.Proofs.Ytljodhcfimklkab
