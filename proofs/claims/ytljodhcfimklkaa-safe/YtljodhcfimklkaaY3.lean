import Derived.Test.YtljodhcfimklkaaY2
import Derived.Test.YtljodhcfimklkaaW1
namespace Go.Proofs.Ytljodhcfimklkaa
open Go.RowKit

def held (s : Sg) (N : Nat) : Int := heldV s.st s.ln s.od s.kd N
/-- The multiplexor's value in a payload. -/
def choiceN (L : List Sg) (N : Nat) : Int := if 0 ≤ muxOf L then held (sgAt L (muxOf L).toNat) N else 0
def valN (L : List Sg) (N : Nat) (c : Int) (j : Nat) : Int := if activeB (sgAt L j).rl c then held (sgAt L j) N else 0
def signN (L : List Sg) (c : Int) (j : Nat) : Int := if activeB (sgAt L j).rl c then 43 else 45
def valsL (L : List Sg) (N : Nat) (c : Int) (k : Nat) : List Int := (List.range k).map (valN L N c)
def signsL (L : List Sg) (c : Int) (k : Nat) : List Int := (List.range k).map (signN L c)
theorem valsL_succ (L : List Sg) (N : Nat) (c : Int) (k : Nat) : valsL L N c (k + 1) = valsL L N c k ++ [valN L N c k] := by simp [valsL, List.range_succ]
theorem signsL_succ (L : List Sg) (c : Int) (k : Nat) : signsL L c (k + 1) = signsL L c k ++ [signN L c k] := by simp [signsL, List.range_succ]
theorem valsL_len (L : List Sg) (N : Nat) (c : Int) (k : Nat) : (valsL L N c k).length = k := by simp [valsL]

/-- A row that is the call's own, read as numbers, nil or not. -/
theorem IntsAt_row {w : World} {B : Nat} {v : Value} {Z : List Int} (h : w.ownsRow B 3 1 v Z.length (Z.map (Value.int .i64))) : IntsAt w v Z := by
  rcases h.2 with ⟨rfl, h0⟩ | ⟨g, cap, cur, rfl, _, hg, hnc, hcm, hcs, ht⟩
  · exact ⟨none, 0, by rw [h0], by omega, fun _ => h0, by simp⟩
  · exact IntsAt_own h

theorem ownsRow_grownB {w w' : World} {B e e' s : Nat} {v : Value} {n : Nat} {xs : List Value} {row : Option Nat} (h : w.ownsRow B e s v n xs) (hg : w.grownBy w' row)
    (hrow : ∀ k, row = some k → ∃ cur, w.heap[k]? = some (.cells cur e' (0, 0))) (hne : e ≠ e') : w'.ownsRow B e s v n xs := by
  refine h.kept hg ?_
  cases hv : v.ownBlock with
  | none => exact .inl rfl
  | some k =>
    refine .inr (fun he => ?_)
    obtain ⟨cur, h1⟩ := hrow k he.symm
    obtain ⟨cur', h2⟩ := ownsRow_block h k hv
    rw [h1] at h2
    simp at h2
    exact hne h2.2.symm

set_option maxRecDepth 100000 in
set_option maxHeartbeats 4000000 in
theorem unpackBits_any (v : Value) (L : List Sg) (N : Nat) (w : World) (h : SigsAt w v L) (hg : Good L) (hf : AllFits L) (hN : N < 18446744073709551616) :
    Calls Try.prog 49 #[v, .int .u64 N] w fun e w' => ∃ u, e = .returned (.tuple #[u, .string (strOfNums (signsL L (choiceN L N) L.length))]) ∧ IntsAt w' u (valsL L N (choiceN L N) L.length) ∧ Below w.heap.size w w' := by
  obtain ⟨i0, hinf, hz0, hz1, hz2⟩ := info_parts Try.infoU8
  obtain ⟨j0, jinf, jz0, jz1, jz2⟩ := info_parts Try.infoInt
  have IINF := hide hinf
  have IZ0 := hide hz0
  have IZ1 := hide hz1
  have IZ2 := hide hz2
  have JINF := hide jinf
  have JZ0 := hide jz0
  have JZ1 := hide jz1
  have JZ2 := hide jz2
  clear hinf hz0 hz1 hz2 jinf jz0 jz1 jz2
  have hl := hg.1
  have HG := hide hg
  have HF := hide hf
  have HN := hide hN
  have HSV := hide h
  obtain ⟨va, vcap, rfl⟩ := ownsRow_form h
  clear hg hf hN h
  go_enter Try.func49, Try.ntmps49
  go_wp2_with fail
  refine (multiplexor_any _ L _ (unhide HSV) hl).mono ?_
  rintro e w0 ⟨rfl, rfl⟩
  rcases mux_range L with hmx | ⟨x, hx, hmx, _⟩
  · have HCH := hide (show choiceN L N = 0 by rw [choiceN, hmx]; rfl)
    rw [hmx]
    clear hmx
    have HB0 : Hid (Below w0.heap.size w0 w0) := hide (Below.refl _ _)
    go_wp2
    go_loopw [8, 9, 10, 11, 12] (fun v t i _ _ wr => ∃ k : Nat, k ≤ L.length ∧ i = .int .i64 k ∧ wr.ownsRow w0.heap.size 3 1 v k ((valsL L N 0 k).map (Value.int .i64)) ∧ wr.ownsRow w0.heap.size 5 1 t k ((signsL L 0 k).map (Value.int .u8)) ∧ Below w0.heap.size w0 wr) (fun _ _ i _ _ _ => L.length - (intOf i).toNat)
    case atStart =>
      refine ⟨0, by omega, rfl, ⟨by simp [valsL], .inr ⟨_, 0, #[], rfl, Nat.le_refl _, blk_alloc (blk_new _ _), by simp, by simp [maxLen], by simp, by simp [valsL]⟩⟩, ⟨by simp [signsL], .inr ⟨_, 0, #[], rfl, by omega, new_two _ _ _, by simp, by simp [maxLen], by simp, by simp [signsL]⟩⟩, ((Below.refl _ _).alloc (Nat.le_refl _) _).alloc (by simp) _⟩
    case round =>
      obtain ⟨k, hk, rfl, hr1, hr2, hb⟩ := hrel
      obtain ⟨ta, tcap, rfl⟩ := ownsRow_form hr2
      obtain ⟨ua, ucap, rfl⟩ := ownsRow_form hr1
      have HR10 := hide hr1
      have HR20 := hide hr2
      have HB := hide hb
      clear hr1 hr2 hb
      by_cases hlt : k < L.length
      · rcases (unhide HSV).opened with ⟨hnil, _⟩ | ⟨g2, cap2, hv2, hg2, hcap2, hcm2, hc2⟩
        · rw [hnil] at hlt; simp at hlt
        cases hv2
        have HC2 := hide hc2
        obtain ⟨ok, r0, r1⟩ := (unhide HG).2 k hlt
        have OK := hide ok
        have hi0 : (0 : Int) ≤ (k : Int) := by omega
        have hi1 : (k : Int) < (L.length : Int) := by omega
        have cw := cells7 (unhide HC2) hg2 (unhide HB) hlt
        clear ok hc2
        go_wp2_with fail
        refine (isActive_any _ _ _ _ _ _ (sgAt L k).rl 0 _ r0 r1).mono ?_
        rintro e w3 ⟨rfl, hb3⟩
        have HB3 := hide ((unhide HB).trans (hb3.mono (unhide HB).size))
        have HR13 := hide (ownsRow_bel (unhide HR10) hb3)
        have HR23 := hide (ownsRow_bel (unhide HR20) hb3)
        clear hb3 cw
        cases hac : activeB (sgAt L k).rl 0 with
        | false =>
          have HVAL := hide (show valN L N 0 k = 0 by rw [valN, hac]; rfl)
          have HSGN := hide (show signN L 0 k = 45 by rw [signN, hac]; rfl)
          obtain ⟨w4, rfl⟩ : ∃ w4 : World, w4 = w3 := ⟨_, rfl⟩
          have HR1 := HR13
          have HR2 := HR23
          have HB4 := HB3
          go_wp2_with (at_builtin; refine wpList_append_own _ rfl _ _ 29 rfl w0.heap.size 3 j0 _ 1 8 Try.underlying29 (unhide JINF) (unhide JZ0) (unhide JZ1) (unhide JZ2) rfl (by decide) _ _ _ rfl ((unhide HR1).alloc _) ⟨w4.heap.size, 0, none⟩ 1 1 [.int .i64 0] rfl rfl ?c1 ?c2 ?c3 ?c4 ?c5 ?_)
          case c1 => exact new_cells (blk_new _ _)
          case c2 => simp [Value.oneCell']
          case c3 => unfold maxLen; omega
          case c4 => omega
          case c5 => have := (unhide HB4).size; simp; omega
          intro v5 w5 hown5 hgrow5 _
          obtain ⟨a5, cap5, rfl⟩ := ownsRow_form hown5
          have HB5 := hide (Below.grown ((unhide HB4).alloc (unhide HB4).size _) hgrow5 (by have := (unhide HB4).size; simp; omega) (fun q hq => ((unhide HR1).lt q hq).1))
          have HR25 := hide (ownsRow_grownB (e' := 3) ((unhide HR2).alloc _) hgrow5 (ownsRow_block ((unhide HR1).alloc _)) (by decide))
          have HR15 := hide hown5
          clear hown5 hgrow5
          go_wp2_with (at_builtin; refine wpList_append_own _ rfl _ _ 38 rfl w0.heap.size 5 i0 _ 1 1 Try.underlying38 (unhide IINF) (unhide IZ0) (unhide IZ1) (unhide IZ2) rfl (by decide) _ _ _ rfl ((unhide HR25).alloc _) ⟨w5.heap.size, 0, none⟩ 1 1 [.int .u8 45] rfl rfl ?d1 ?d2 ?d3 ?d4 ?d5 ?_)
          case d1 => exact new_cells (blk_new _ _)
          case d2 => simp [Value.oneCell']
          case d3 => unfold maxLen; omega
          case d4 => omega
          case d5 => have := (unhide HB5).size; simp; omega
          intro v7 w7 hown7 hgrow7 _
          obtain ⟨a7, cap7, rfl⟩ := ownsRow_form hown7
          have HB7 := hide (Below.grown ((unhide HB5).alloc (unhide HB5).size _) hgrow7 (by have := (unhide HB5).size; simp; omega) (fun q hq => ((unhide HR25).lt q hq).1))
          have HR17 := hide (ownsRow_grownB (e' := 5) ((unhide HR15).alloc _) hgrow7 (ownsRow_block ((unhide HR25).alloc _)) (by decide))
          have HR27 := hide hown7
          clear hown7 hgrow7
          go_wp2
          go_roundw
          case rel =>
            refine ⟨k + 1, by omega, by go_num, ?_, ?_, unhide HB7⟩
            · rw [valsL_succ, List.map_append, unhide HVAL]; exact unhide HR17
            · rw [signsL_succ, List.map_append, unhide HSGN]; exact unhide HR27
          case measure => simp [intOf]; omega
        | true =>
          have HVAL := hide (show valN L N 0 k = heldV (sgAt L k).st (sgAt L k).ln (sgAt L k).od (sgAt L k).kd N by rw [valN, hac]; rfl)
          have HSGN := hide (show signN L 0 k = 43 by rw [signN, hac]; rfl)
          have cw := cells7 (unhide HC2) hg2 (unhide HB3) hlt
          go_wp2_with fail
          refine (heldValue_any _ _ (sgAt L k).st (sgAt L k).ln (sgAt L k).od (sgAt L k).kd _ N _ (unhide OK).st0 (unhide OK).st1 (unhide OK).ln0 (unhide OK).ln1 (unhide OK).od (unhide OK).kd (unhide HF k hlt) (unhide HN)).mono ?_
          rintro e w4 ⟨rfl, hb4⟩
          have HB4 := hide ((unhide HB3).trans (hb4.mono (unhide HB3).size))
          have HR1 := hide (ownsRow_bel (unhide HR13) hb4)
          have HR2 := hide (ownsRow_bel (unhide HR23) hb4)
          clear hb4 cw
          go_wp2_with (at_builtin; refine wpList_append_own _ rfl _ _ 29 rfl w0.heap.size 3 j0 _ 1 8 Try.underlying29 (unhide JINF) (unhide JZ0) (unhide JZ1) (unhide JZ2) rfl (by decide) _ _ _ rfl ((unhide HR1).alloc _) ⟨w4.heap.size, 0, none⟩ 1 1 [.int .i64 (heldV (sgAt L k).st (sgAt L k).ln (sgAt L k).od (sgAt L k).kd N)] rfl rfl ?c1 ?c2 ?c3 ?c4 ?c5 ?_)
          case c1 => exact new_cells (blk_new _ _)
          case c2 => simp [Value.oneCell']
          case c3 => unfold maxLen; omega
          case c4 => omega
          case c5 => have := (unhide HB4).size; simp; omega
          intro v5 w5 hown5 hgrow5 _
          obtain ⟨a5, cap5, rfl⟩ := ownsRow_form hown5
          have HB5 := hide (Below.grown ((unhide HB4).alloc (unhide HB4).size _) hgrow5 (by have := (unhide HB4).size; simp; omega) (fun q hq => ((unhide HR1).lt q hq).1))
          have HR25 := hide (ownsRow_grownB (e' := 3) ((unhide HR2).alloc _) hgrow5 (ownsRow_block ((unhide HR1).alloc _)) (by decide))
          have HR15 := hide hown5
          clear hown5 hgrow5
          go_wp2_with (at_builtin; refine wpList_append_own _ rfl _ _ 38 rfl w0.heap.size 5 i0 _ 1 1 Try.underlying38 (unhide IINF) (unhide IZ0) (unhide IZ1) (unhide IZ2) rfl (by decide) _ _ _ rfl ((unhide HR25).alloc _) ⟨w5.heap.size, 0, none⟩ 1 1 [.int .u8 43] rfl rfl ?d1 ?d2 ?d3 ?d4 ?d5 ?_)
          case d1 => exact new_cells (blk_new _ _)
          case d2 => simp [Value.oneCell']
          case d3 => unfold maxLen; omega
          case d4 => omega
          case d5 => have := (unhide HB5).size; simp; omega
          intro v7 w7 hown7 hgrow7 _
          obtain ⟨a7, cap7, rfl⟩ := ownsRow_form hown7
          have HB7 := hide (Below.grown ((unhide HB5).alloc (unhide HB5).size _) hgrow7 (by have := (unhide HB5).size; simp; omega) (fun q hq => ((unhide HR25).lt q hq).1))
          have HR17 := hide (ownsRow_grownB (e' := 5) ((unhide HR15).alloc _) hgrow7 (ownsRow_block ((unhide HR25).alloc _)) (by decide))
          have HR27 := hide hown7
          clear hown7 hgrow7
          go_wp2
          go_roundw
          case rel =>
            refine ⟨k + 1, by omega, by go_num, ?_, ?_, unhide HB7⟩
            · rw [valsL_succ, List.map_append, unhide HVAL]; exact unhide HR17
            · rw [signsL_succ, List.map_append, unhide HSGN]; exact unhide HR27
          case measure => simp [intOf]; omega
      · have hkn : k = L.length := by omega
        have hconv : ∀ wx : World, wx.heap = wr.heap → (convert 38 9 (.slice ta k tcap)).run Try.prog wx = .ok (.string (strOfNums (signsL L 0 k))) wx := fun wx hw => conv_row (w := wx) (B := w0.heap.size) (by
          have := unhide HR20
          refine ⟨this.1, ?_⟩
          rcases this.2 with h | ⟨g, cap, cur, h1, h2, h3, h4⟩
          · exact .inl h
          · exact .inr ⟨g, cap, cur, h1, h2, by rw [hw]; exact h3, h4⟩)
        have HK := hide hkn
        clear hkn
        go_wp2
        refine wp_region_noPanic ?_
        refine wp_region_held_drew (S := fun w' => w'.heap = wr.heap) (by kernel_rfl) rfl (fun hHeld => ?_)
        refine wpAnyH_take (i := 0) (v := ?_) (at_list rfl) (by kernel_rfl) (by kernel_rfl) (by kernel_rfl) (fun _ _ _ h => h) (Or.inl ⟨by rfl, ?_⟩) (by assumption) ?_
        rotate_left
        · intro w hSw; (try dsimp only at hSw); first | (go_simp; done) | (go_simp; with_reducible rfl)
        try simp only [Act.put]
        try simp only [List.setIfInBounds_toArray]
        try simp only [List.set_cons_succ]
        try simp only [List.set_cons_zero]
        refine wpAnyH_take (i := 1) (v := ?_) (at_list rfl) (by kernel_rfl) (by kernel_rfl) (by kernel_rfl) (fun _ _ _ h => h) (Or.inl ⟨by rfl, ?_⟩) (by assumption) ?_
        rotate_left
        · intro w hSw; (try dsimp only at hSw); first | (go_simp; done) | (go_simp; with_reducible rfl)
        try simp only [Act.put]
        try simp only [List.setIfInBounds_toArray]
        try simp only [List.set_cons_succ]
        try simp only [List.set_cons_zero]
        refine wpAnyH_take (i := 2) (v := ?_) (at_list rfl) (by kernel_rfl) (by kernel_rfl) (by kernel_rfl) (fun _ _ _ h => h) (Or.inl ⟨by rfl, ?_⟩) (by assumption) ?_
        rotate_left
        · intro w hSw; (try dsimp only at hSw); first | (go_simp; done) | (go_simp; with_reducible rfl)
        try simp only [Act.put]
        try simp only [List.setIfInBounds_toArray]
        try simp only [List.set_cons_succ]
        try simp only [List.set_cons_zero]
        refine wpAnyH_take (i := 3) (v := ?_) (at_list rfl) (by kernel_rfl) (by kernel_rfl) (by kernel_rfl) (fun _ _ _ h => h) (Or.inl ⟨by rfl, ?_⟩) (by assumption) ?_
        rotate_left
        · intro w hSw; (try dsimp only at hSw); first | (go_simp; done) | (go_simp; with_reducible rfl)
        try simp only [Act.put]
        try simp only [List.setIfInBounds_toArray]
        try simp only [List.set_cons_succ]
        try simp only [List.set_cons_zero]
        refine wpAnyH_take (i := 4) (v := ?_) (at_list rfl) (by kernel_rfl) (by kernel_rfl) (by kernel_rfl) (fun _ _ _ h => h) (Or.inl ⟨by rfl, ?_⟩) (by assumption) ?_
        rotate_left
        · intro w hSw; (try dsimp only at hSw); first | (go_simp; done) | (go_simp; with_reducible rfl)
        try simp only [Act.put]
        try simp only [List.setIfInBounds_toArray]
        try simp only [List.set_cons_succ]
        try simp only [List.set_cons_zero]
        refine wpAnyH_done (by kernel_rfl) ?_ _
        refine NoPanic.normal ?_
        clear hconv
        go_wp2
        go_ret2
        refine ⟨.slice ua k ucap, by rw [unhide HCH, ← unhide HK]; rfl, ?_, (unhide HB).drew⟩
        rw [unhide HCH, ← unhide HK]
        refine IntsAt_row (B := w0.heap.size) ?_
        rw [valsL_len]
        exact (unhide HR10).drew
  · have HCH := hide (show choiceN L N = heldV (sgAt L x).st (sgAt L x).ln (sgAt L x).od (sgAt L x).kd N by rw [choiceN, hmx, if_pos (by omega), Int.toNat_natCast]; rfl)
    rw [hmx]
    rcases (unhide HSV).opened with ⟨hnil, _⟩ | ⟨gx, capx, hvx, hgx, hcapx, hcmx, hcx⟩
    · rw [hnil] at hx; simp at hx
    cases hvx
    have okx := ((unhide HG).2 x hx).1
    have OKX := hide okx
    have hj0 : (0 : Int) ≤ (x : Int) := by omega
    have hj1 : (x : Int) < (L.length : Int) := by omega
    have cwx := cells7 hcx hgx (Below.refl _ _) hx
    clear hmx okx hcx
    go_wp2_with fail
    refine (heldValue_any _ _ (sgAt L x).st (sgAt L x).ln (sgAt L x).od (sgAt L x).kd _ N _ (unhide OKX).st0 (unhide OKX).st1 (unhide OKX).ln0 (unhide OKX).ln1 (unhide OKX).od (unhide OKX).kd (unhide HF x hx) (unhide HN)).mono ?_
    rintro e w2 ⟨rfl, hb2⟩
    obtain ⟨cc, HCCV⟩ : ∃ cc, Hid (cc = heldV (sgAt L x).st (sgAt L x).ln (sgAt L x).od (sgAt L x).kd N) := ⟨_, hide rfl⟩
    rw [← unhide HCCV] at HCH
    rw [← unhide HCCV]
    have HBX0 := hide hb2
    have hszw := hb2.size
    clear hb2 cwx
    go_wp2
    go_loopw [8, 9, 10, 11, 12] (fun v t i _ _ wr => ∃ k : Nat, k ≤ L.length ∧ i = .int .i64 k ∧ wr.ownsRow w0.heap.size 3 1 v k ((valsL L N cc k).map (Value.int .i64)) ∧ wr.ownsRow w0.heap.size 5 1 t k ((signsL L cc k).map (Value.int .u8)) ∧ Below w0.heap.size w0 wr) (fun _ _ i _ _ _ => L.length - (intOf i).toNat)
    case atStart =>
      refine ⟨0, by omega, rfl, ⟨by simp [valsL], .inr ⟨_, 0, #[], rfl, hszw, blk_alloc (blk_new _ _), by simp, by simp [maxLen], by simp, by simp [valsL]⟩⟩, ⟨by simp [signsL], .inr ⟨_, 0, #[], rfl, by omega, new_two _ _ _, by simp, by simp [maxLen], by simp, by simp [signsL]⟩⟩, ((unhide HBX0).alloc hszw _).alloc (by simp; omega) _⟩
    case round =>
      obtain ⟨k, hk, rfl, hr1, hr2, hb⟩ := hrel
      obtain ⟨ta, tcap, rfl⟩ := ownsRow_form hr2
      obtain ⟨ua, ucap, rfl⟩ := ownsRow_form hr1
      have HR10 := hide hr1
      have HR20 := hide hr2
      have HB := hide hb
      clear hr1 hr2 hb
      by_cases hlt : k < L.length
      · rcases (unhide HSV).opened with ⟨hnil, _⟩ | ⟨g2, cap2, hv2, hg2, hcap2, hcm2, hc2⟩
        · rw [hnil] at hlt; simp at hlt
        cases hv2
        have HC2 := hide hc2
        obtain ⟨ok, r0, r1⟩ := (unhide HG).2 k hlt
        have OK := hide ok
        have hi0 : (0 : Int) ≤ (k : Int) := by omega
        have hi1 : (k : Int) < (L.length : Int) := by omega
        have cw := cells7 (unhide HC2) hg2 (unhide HB) hlt
        clear ok hc2
        go_wp2_with fail
        refine (isActive_any _ _ _ _ _ _ (sgAt L k).rl cc _ r0 r1).mono ?_
        rintro e w3 ⟨rfl, hb3⟩
        have HB3 := hide ((unhide HB).trans (hb3.mono (unhide HB).size))
        have HR13 := hide (ownsRow_bel (unhide HR10) hb3)
        have HR23 := hide (ownsRow_bel (unhide HR20) hb3)
        clear hb3 cw
        cases hac : activeB (sgAt L k).rl cc with
        | false =>
          have HVAL := hide (show valN L N cc k = 0 by rw [valN, hac]; rfl)
          have HSGN := hide (show signN L cc k = 45 by rw [signN, hac]; rfl)
          obtain ⟨w4, rfl⟩ : ∃ w4 : World, w4 = w3 := ⟨_, rfl⟩
          have HR1 := HR13
          have HR2 := HR23
          have HB4 := HB3
          go_wp2_with (at_builtin; refine wpList_append_own _ rfl _ _ 29 rfl w0.heap.size 3 j0 _ 1 8 Try.underlying29 (unhide JINF) (unhide JZ0) (unhide JZ1) (unhide JZ2) rfl (by decide) _ _ _ rfl ((unhide HR1).alloc _) ⟨w4.heap.size, 0, none⟩ 1 1 [.int .i64 0] rfl rfl ?c1 ?c2 ?c3 ?c4 ?c5 ?_)
          case c1 => exact new_cells (blk_new _ _)
          case c2 => simp [Value.oneCell']
          case c3 => unfold maxLen; omega
          case c4 => omega
          case c5 => have := (unhide HB4).size; simp; omega
          intro v5 w5 hown5 hgrow5 _
          obtain ⟨a5, cap5, rfl⟩ := ownsRow_form hown5
          have HB5 := hide (Below.grown ((unhide HB4).alloc (unhide HB4).size _) hgrow5 (by have := (unhide HB4).size; simp; omega) (fun q hq => ((unhide HR1).lt q hq).1))
          have HR25 := hide (ownsRow_grownB (e' := 3) ((unhide HR2).alloc _) hgrow5 (ownsRow_block ((unhide HR1).alloc _)) (by decide))
          have HR15 := hide hown5
          clear hown5 hgrow5
          go_wp2_with (at_builtin; refine wpList_append_own _ rfl _ _ 38 rfl w0.heap.size 5 i0 _ 1 1 Try.underlying38 (unhide IINF) (unhide IZ0) (unhide IZ1) (unhide IZ2) rfl (by decide) _ _ _ rfl ((unhide HR25).alloc _) ⟨w5.heap.size, 0, none⟩ 1 1 [.int .u8 45] rfl rfl ?d1 ?d2 ?d3 ?d4 ?d5 ?_)
          case d1 => exact new_cells (blk_new _ _)
          case d2 => simp [Value.oneCell']
          case d3 => unfold maxLen; omega
          case d4 => omega
          case d5 => have := (unhide HB5).size; simp; omega
          intro v7 w7 hown7 hgrow7 _
          obtain ⟨a7, cap7, rfl⟩ := ownsRow_form hown7
          have HB7 := hide (Below.grown ((unhide HB5).alloc (unhide HB5).size _) hgrow7 (by have := (unhide HB5).size; simp; omega) (fun q hq => ((unhide HR25).lt q hq).1))
          have HR17 := hide (ownsRow_grownB (e' := 5) ((unhide HR15).alloc _) hgrow7 (ownsRow_block ((unhide HR25).alloc _)) (by decide))
          have HR27 := hide hown7
          clear hown7 hgrow7
          go_wp2
          go_roundw
          case rel =>
            refine ⟨k + 1, by omega, by go_num, ?_, ?_, unhide HB7⟩
            · rw [valsL_succ, List.map_append, unhide HVAL]; exact unhide HR17
            · rw [signsL_succ, List.map_append, unhide HSGN]; exact unhide HR27
          case measure => simp [intOf]; omega
        | true =>
          have HVAL := hide (show valN L N cc k = heldV (sgAt L k).st (sgAt L k).ln (sgAt L k).od (sgAt L k).kd N by rw [valN, hac]; rfl)
          have HSGN := hide (show signN L cc k = 43 by rw [signN, hac]; rfl)
          have cw := cells7 (unhide HC2) hg2 (unhide HB3) hlt
          go_wp2_with fail
          refine (heldValue_any _ _ (sgAt L k).st (sgAt L k).ln (sgAt L k).od (sgAt L k).kd _ N _ (unhide OK).st0 (unhide OK).st1 (unhide OK).ln0 (unhide OK).ln1 (unhide OK).od (unhide OK).kd (unhide HF k hlt) (unhide HN)).mono ?_
          rintro e w4 ⟨rfl, hb4⟩
          have HB4 := hide ((unhide HB3).trans (hb4.mono (unhide HB3).size))
          have HR1 := hide (ownsRow_bel (unhide HR13) hb4)
          have HR2 := hide (ownsRow_bel (unhide HR23) hb4)
          clear hb4 cw
          go_wp2_with (at_builtin; refine wpList_append_own _ rfl _ _ 29 rfl w0.heap.size 3 j0 _ 1 8 Try.underlying29 (unhide JINF) (unhide JZ0) (unhide JZ1) (unhide JZ2) rfl (by decide) _ _ _ rfl ((unhide HR1).alloc _) ⟨w4.heap.size, 0, none⟩ 1 1 [.int .i64 (heldV (sgAt L k).st (sgAt L k).ln (sgAt L k).od (sgAt L k).kd N)] rfl rfl ?c1 ?c2 ?c3 ?c4 ?c5 ?_)
          case c1 => exact new_cells (blk_new _ _)
          case c2 => simp [Value.oneCell']
          case c3 => unfold maxLen; omega
          case c4 => omega
          case c5 => have := (unhide HB4).size; simp; omega
          intro v5 w5 hown5 hgrow5 _
          obtain ⟨a5, cap5, rfl⟩ := ownsRow_form hown5
          have HB5 := hide (Below.grown ((unhide HB4).alloc (unhide HB4).size _) hgrow5 (by have := (unhide HB4).size; simp; omega) (fun q hq => ((unhide HR1).lt q hq).1))
          have HR25 := hide (ownsRow_grownB (e' := 3) ((unhide HR2).alloc _) hgrow5 (ownsRow_block ((unhide HR1).alloc _)) (by decide))
          have HR15 := hide hown5
          clear hown5 hgrow5
          go_wp2_with (at_builtin; refine wpList_append_own _ rfl _ _ 38 rfl w0.heap.size 5 i0 _ 1 1 Try.underlying38 (unhide IINF) (unhide IZ0) (unhide IZ1) (unhide IZ2) rfl (by decide) _ _ _ rfl ((unhide HR25).alloc _) ⟨w5.heap.size, 0, none⟩ 1 1 [.int .u8 43] rfl rfl ?d1 ?d2 ?d3 ?d4 ?d5 ?_)
          case d1 => exact new_cells (blk_new _ _)
          case d2 => simp [Value.oneCell']
          case d3 => unfold maxLen; omega
          case d4 => omega
          case d5 => have := (unhide HB5).size; simp; omega
          intro v7 w7 hown7 hgrow7 _
          obtain ⟨a7, cap7, rfl⟩ := ownsRow_form hown7
          have HB7 := hide (Below.grown ((unhide HB5).alloc (unhide HB5).size _) hgrow7 (by have := (unhide HB5).size; simp; omega) (fun q hq => ((unhide HR25).lt q hq).1))
          have HR17 := hide (ownsRow_grownB (e' := 5) ((unhide HR15).alloc _) hgrow7 (ownsRow_block ((unhide HR25).alloc _)) (by decide))
          have HR27 := hide hown7
          clear hown7 hgrow7
          go_wp2
          go_roundw
          case rel =>
            refine ⟨k + 1, by omega, by go_num, ?_, ?_, unhide HB7⟩
            · rw [valsL_succ, List.map_append, unhide HVAL]; exact unhide HR17
            · rw [signsL_succ, List.map_append, unhide HSGN]; exact unhide HR27
          case measure => simp [intOf]; omega
      · have hkn : k = L.length := by omega
        have hconv : ∀ wx : World, wx.heap = wr.heap → (convert 38 9 (.slice ta k tcap)).run Try.prog wx = .ok (.string (strOfNums (signsL L cc k))) wx := fun wx hw => conv_row (w := wx) (B := w0.heap.size) (by
          have := unhide HR20
          refine ⟨this.1, ?_⟩
          rcases this.2 with h | ⟨g, cap, cur, h1, h2, h3, h4⟩
          · exact .inl h
          · exact .inr ⟨g, cap, cur, h1, h2, by rw [hw]; exact h3, h4⟩)
        have HK := hide hkn
        clear hkn
        go_wp2
        refine wp_region_noPanic ?_
        refine wp_region_held_drew (S := fun w' => w'.heap = wr.heap) (by kernel_rfl) rfl (fun hHeld => ?_)
        refine wpAnyH_take (i := 0) (v := ?_) (at_list rfl) (by kernel_rfl) (by kernel_rfl) (by kernel_rfl) (fun _ _ _ h => h) (Or.inl ⟨by rfl, ?_⟩) (by assumption) ?_
        rotate_left
        · intro w hSw; (try dsimp only at hSw); first | (go_simp; done) | (go_simp; with_reducible rfl)
        try simp only [Act.put]
        try simp only [List.setIfInBounds_toArray]
        try simp only [List.set_cons_succ]
        try simp only [List.set_cons_zero]
        refine wpAnyH_take (i := 1) (v := ?_) (at_list rfl) (by kernel_rfl) (by kernel_rfl) (by kernel_rfl) (fun _ _ _ h => h) (Or.inl ⟨by rfl, ?_⟩) (by assumption) ?_
        rotate_left
        · intro w hSw; (try dsimp only at hSw); first | (go_simp; done) | (go_simp; with_reducible rfl)
        try simp only [Act.put]
        try simp only [List.setIfInBounds_toArray]
        try simp only [List.set_cons_succ]
        try simp only [List.set_cons_zero]
        refine wpAnyH_take (i := 2) (v := ?_) (at_list rfl) (by kernel_rfl) (by kernel_rfl) (by kernel_rfl) (fun _ _ _ h => h) (Or.inl ⟨by rfl, ?_⟩) (by assumption) ?_
        rotate_left
        · intro w hSw; (try dsimp only at hSw); first | (go_simp; done) | (go_simp; with_reducible rfl)
        try simp only [Act.put]
        try simp only [List.setIfInBounds_toArray]
        try simp only [List.set_cons_succ]
        try simp only [List.set_cons_zero]
        refine wpAnyH_take (i := 3) (v := ?_) (at_list rfl) (by kernel_rfl) (by kernel_rfl) (by kernel_rfl) (fun _ _ _ h => h) (Or.inl ⟨by rfl, ?_⟩) (by assumption) ?_
        rotate_left
        · intro w hSw; (try dsimp only at hSw); first | (go_simp; done) | (go_simp; with_reducible rfl)
        try simp only [Act.put]
        try simp only [List.setIfInBounds_toArray]
        try simp only [List.set_cons_succ]
        try simp only [List.set_cons_zero]
        refine wpAnyH_take (i := 4) (v := ?_) (at_list rfl) (by kernel_rfl) (by kernel_rfl) (by kernel_rfl) (fun _ _ _ h => h) (Or.inl ⟨by rfl, ?_⟩) (by assumption) ?_
        rotate_left
        · intro w hSw; (try dsimp only at hSw); first | (go_simp; done) | (go_simp; with_reducible rfl)
        try simp only [Act.put]
        try simp only [List.setIfInBounds_toArray]
        try simp only [List.set_cons_succ]
        try simp only [List.set_cons_zero]
        refine wpAnyH_done (by kernel_rfl) ?_ _
        refine NoPanic.normal ?_
        clear hconv
        go_wp2
        go_ret2
        refine ⟨.slice ua k ucap, by rw [unhide HCH, ← unhide HK]; rfl, ?_, (unhide HB).drew⟩
        rw [unhide HCH, ← unhide HK]
        refine IntsAt_row (B := w0.heap.size) ?_
        rw [valsL_len]
        exact (unhide HR10).drew

end Go.Proofs.Ytljodhcfimklkaa
