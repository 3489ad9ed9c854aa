import Derived.Test.YtljodhcfimklkaaJ2
import Derived.Laws.Bits64b
namespace Go.Proofs.Ytljodhcfimklkaa
open Go.RowKit

def held (s : Sg) (N : Nat) : Int := heldV s.st s.ln s.od s.kd N
/-- The multiplexor's value in a payload. -/
def choiceN (L : List Sg) (N : Nat) : Int := if 0 ≤ muxOf L then held (sgAt L (muxOf L).toNat) N else 0
def valN (L : List Sg) (N : Nat) (c : Int) (j : Nat) : Int := if activeB (sgAt L j).rl c then held (sgAt L j) N else 0
def signN (L : List Sg) (c : Int) (j : Nat) : Int := if activeB (sgAt L j).rl c then 43 else 45
def valsL (L : List Sg) (N : Nat) (c : Int) (k : Nat) : List Int := (List.range k).map (valN L N c)
def signsL (L : List Sg) (c : Int) (k : Nat) : List Int := (List.range k).map (signN L c)
theorem valsL_succ (L : List Sg) (N : Nat) (c : Int) (k : Nat) : valsL L N c (k + 1) = valsL L N c k ++ [valN L N c k] := by simp [valsL, List.range_succ]
theorem signsL_succ (L : List Sg) (c : Int) (k : Nat) : signsL L c (k + 1) = signsL L c k ++ [signN L c k] := by simp [signsL, List.range_succ]
theorem valsL_len (L : List Sg) (N : Nat) (c : Int) (k : Nat) : (valsL L N c k).length = k := by simp [valsL]

/-- A row that is the call's own, read as numbers, nil or not. -/
theorem IntsAt_row {w : World} {B : Nat} {v : Value} {Z : List Int} (h : w.ownsRow B 3 1 v Z.length (Z.map (Value.int .i64))) : IntsAt w v Z := by
  rcases h.2 with ⟨rfl, h0⟩ | ⟨g, cap, cur, rfl, _, hg, hnc, hcm, hcs, ht⟩
  · exact ⟨none, 0, by rw [h0], by omega, fun _ => h0, by simp⟩
  · exact IntsAt_own h

theorem ownsRow_grownB {w w' : World} {B e e' s : Nat} {v : Value} {n : Nat} {xs : List Value} {row : Option Nat} (h : w.ownsRow B e s v n xs) (hg : w.grownBy w' row)
    (hrow : ∀ k, row = some k → ∃ cur, w.heap[k]? = some (.cells cur e' (0, 0))) (hne : e ≠ e') : w'.ownsRow B e s v n xs := by
  refine h.kept hg ?_
  cases hv : v.ownBlock with
  | none => exact .inl rfl
  | some k =>
    refine .inr (fun he => ?_)
    obtain ⟨cur, h1⟩ := hrow k he.symm
    obtain ⟨cur', h2⟩ := ownsRow_block h k hv
    rw [h1] at h2
    simp at h2
    exact hne h2.2.symm

set_option maxRecDepth 100000 in
set_option maxHeartbeats 4000000 in
theorem unpackBits_any (v : Value) (L : List Sg) (N : Nat) (w : World) (h : SigsAt w v L) (hg : Good L) (hf : AllFits L) (hN : N < 18446744073709551616) :
    Calls Try.prog 49 #[v, .int .u64 N] w fun e w' => ∃ u, e = .returned (.tuple #[u, .string (strOfNums (signsL L (choiceN L N) L.length))]) ∧ IntsAt w' u (valsL L N (choiceN L N) L.length) ∧ Below w.heap.size w w' := by
  obtain ⟨i0, hinf, hz0, hz1, hz2⟩ := info_parts Try.infoU8
  obtain ⟨j0, jinf, jz0, jz1, jz2⟩ := info_parts Try.infoInt
  have IINF := hide hinf
  have IZ0 := hide hz0
  have IZ1 := hide hz1
  have IZ2 := hide hz2
  have JINF := hide jinf
  have JZ0 := hide jz0
  have JZ1 := hide jz1
  have JZ2 := hide jz2
  clear hinf hz0 hz1 hz2 jinf jz0 jz1 jz2
  have hl := hg.1
  have HG := hide hg
  have HF := hide hf
  have HN := hide hN
  have HSV := hide h
  obtain ⟨va, vcap, rfl⟩ := ownsRow_form h
  clear hg hf hN h
  go_enter Try.func49, Try.ntmps49
  go_wp2_with fail
  refine (multiplexor_any _ L _ (unhide HSV) hl).mono ?_
  rintro e w0 ⟨rfl, rfl⟩
  rcases mux_range L with hmx | ⟨x, hx, hmx, _⟩
  · have HCH := hide (show choiceN L N = 0 by rw [choiceN, hmx]; rfl)
    rw [hmx]
    clear hmx
    have HB0 : Hid (Below w0.heap.size w0 w0) := hide (Below.refl _ _)
    go_wp2
    go_loopw [8, 9, 10, 11, 12] (fun v t i _ _ wr => ∃ k : Nat, k ≤ L.length ∧ i = .int .i64 k ∧ wr.ownsRow w0.heap.size 3 1 v k ((valsL L N 0 k).map (Value.int .i64)) ∧ wr.ownsRow w0.heap.size 5 1 t k ((signsL L 0 k).map (Value.int .u8)) ∧ Below w0.heap.size w0 wr) (fun _ _ i _ _ _ => L.length - (intOf i).toNat)
    case atStart =>
      refine ⟨0, by omega, rfl, ⟨by simp [valsL], .inr ⟨_, 0, #[], rfl, Nat.le_refl _, blk_alloc (blk_new _ _), by simp, by simp [maxLen], by simp, by simp [valsL]⟩⟩, ⟨by simp [signsL], .inr ⟨_, 0, #[], rfl, by omega, new_two _ _ _, by simp, by simp [maxLen], by simp, by simp [signsL]⟩⟩, ((Below.refl _ _).alloc (Nat.le_refl _) _).alloc (by simp) _⟩
    case round =>
      obtain ⟨k, hk, rfl, hr1, hr2, hb⟩ := hrel
      obtain ⟨ta, tcap, rfl⟩ := ownsRow_form hr2
      obtain ⟨ua, ucap, rfl⟩ := ownsRow_form hr1
      have HR10 := hide hr1
      have HR20 := hide hr2
      have HB := hide hb
      clear hr1 hr2 hb
      by_cases hlt : k < L.length
      · rcases (unhide HSV).opened with ⟨hnil, _⟩ | ⟨g2, cap2, hv2, hg2, hcap2, hcm2, hc2⟩
        · rw [hnil] at hlt; simp at hlt
        cases hv2
        have HC2 := hide hc2
        obtain ⟨ok, r0, r1⟩ := (unhide HG).2 k hlt
        have OK := hide ok
        have hi0 : (0 : Int) ≤ (k : Int) := by omega
        have hi1 : (k : Int) < (L.length : Int) := by omega
        have cw := cells7 (unhide HC2) hg2 (unhide HB) hlt
        clear ok hc2
        go_wp2_with fail
        refine (isActive_any _ _ _ _ _ _ (sgAt L k).rl 0 _ r0 r1).mono ?_
        rintro e w3 ⟨rfl, hb3⟩
        have HB3 := hide ((unhide HB).trans (hb3.mono (unhide HB).size))
        have HR13 := hide (ownsRow_bel (unhide HR10) hb3)
        have HR23 := hide (ownsRow_bel (unhide HR20) hb3)
        clear hb3 cw
        cases hac : activeB (sgAt L k).rl 0 with
        | false =>
          have HVAL := hide (show valN L N 0 k = 0 by rw [valN, hac]; rfl)
          have HSGN := hide (show signN L 0 k = 45 by rw [signN, hac]; rfl)
          obtain ⟨w4, rfl⟩ : ∃ w4 : World, w4 = w3 := ⟨_, rfl⟩
          have HR1 := HR13
          have HR2 := HR23
          have HB4 := HB3
          go_wp2_with (at_builtin; refine wpList_append_own _ rfl _ _ 29 rfl w0.heap.size 3 j0 _ 1 8 Try.underlying29 (unhide JINF) (unhide JZ0) (unhide JZ1) (unhide JZ2) rfl (by decide) _ _ _ rfl ((unhide HR1).alloc _) ⟨w4.heap.size, 0, none⟩ 1 1 [.int .i64 0] rfl rfl ?c1 ?c2 ?c3 ?c4 ?c5 ?_)
          case c1 => exact new_cells (blk_new _ _)
          case c2 => simp [Value.oneCell']
          case c3 => unfold maxLen; omega
          case c4 => omega
          case c5 => have := (unhide HB4).size; simp; omega
          intro v5 w5 hown5 hgrow5 _
          obtain ⟨a5, cap5, rfl⟩ := ownsRow_form hown5
          have HB5 := hide (Below.grown ((unhide HB4).alloc (unhide HB4).size _) hgrow5 (by have := (unhide HB4).size; simp; omega) (fun q hq => ((unhide HR1).lt q hq).1))
          have HR25 := hide (ownsRow_grownB (e' := 3) ((unhide HR2).alloc _) hgrow5 (ownsRow_block ((unhide HR1).alloc _)) (by decide))
          have HR15 := hide hown5
          clear hown5 hgrow5
          go_wp2_with (at_builtin; refine wpList_append_own _ rfl _ _ 38 rfl w0.heap.size 5 i0 _ 1 1 Try.underlying38 (unhide IINF) (unhide IZ0) (unhide IZ1) (unhide IZ2) rfl (by decide) _ _ _ rfl ((unhide HR25).alloc _) ⟨w5.heap.size, 0, none⟩ 1 1 [.int .u8 45] rfl rfl ?d1 ?d2 ?d3 ?d4 ?d5 ?_)
          case d1 => exact new_cells (blk_new _ _)
          case d2 => simp [Value.oneCell']
          case d3 => unfold maxLen; omega
          case d4 => omega
          case d5 => have := (unhide HB5).size; simp; omega
          intro v7 w7 hown7 hgrow7 _
          obtain ⟨a7, cap7, rfl⟩ := ownsRow_form hown7
          have HB7 := hide (Below.grown ((unhide HB5).alloc (unhide HB5).size _) hgrow7 (by have := (unhide HB5).size; simp; omega) (fun q hq => ((unhide HR25).lt q hq).1))
          have HR17 := hide (ownsRow_grownB (e' := 5) ((unhide HR15).alloc _) hgrow7 (ownsRow_block ((unhide HR25).alloc _)) (by decide))
          have HR27 := hide hown7
          clear hown7 hgrow7
          go_wp2
          go_roundw
          case rel =>
            refine ⟨k + 1, by omega, by go_num, ?_, ?_, unhide HB7⟩
            · rw [valsL_succ, List.map_append, unhide HVAL]; exact unhide HR17
            · rw [signsL_succ, List.map_append, unhide HSGN]; exact unhide HR27
          case measure => simp [intOf]; omega
        | true =>
          have HVAL := hide (show valN L N 0 k = heldV (sgAt L k).st (sgAt L k).ln (sgAt L k).od (sgAt L k).kd N by rw [valN, hac]; rfl)
          have HSGN := hide (show signN L 0 k = 43 by rw [signN, hac]; rfl)
          have cw := cells7 (unhide HC2) hg2 (unhide HB3) hlt
          go_wp2_with fail
          refine (heldValue_any _ _ (sgAt L k).st (sgAt L k).ln (sgAt L k).od (sgAt L k).kd _ N _ (unhide OK).st0 (unhide OK).st1 (unhide OK).ln0 (unhide OK).ln1 (unhide OK).od (unhide OK).kd (unhide HF k hlt) (unhide HN)).mono ?_
          rintro e w4 ⟨rfl, hb4⟩
          have HB4 := hide ((unhide HB3).trans (hb4.mono (unhide HB3).size))
          have HR1 := hide (ownsRow_bel (unhide HR13) hb4)
          have HR2 := hide (ownsRow_bel (unhide HR23) hb4)
          clear hb4 cw
          go_wp2_with (at_builtin; refine wpList_append_own _ rfl _ _ 29 rfl w0.heap.size 3 j0 _ 1 8 Try.underlying29 (unhide JINF) (unhide JZ0) (unhide JZ1) (unhide JZ2) rfl (by decide) _ _ _ rfl ((unhide HR1).alloc _) ⟨w4.heap.size, 0, none⟩ 1 1 [.int .i64 (heldV (sgAt L k).st (sgAt L k).ln (sgAt L k).od (sgAt L k).kd N)] rfl rfl ?c1 ?c2 ?c3 ?c4 ?c5 ?_)
          case c1 => exact new_cells (blk_new _ _)
          case c2 => simp [Value.oneCell']
          case c3 => unfold maxLen; omega
          case c4 => omega
          case c5 => have := (unhide HB4).size; simp; omega
          intro v5 w5 hown5 hgrow5 _
          obtain ⟨a5, cap5, rfl⟩ := ownsRow_form hown5
          have HB5 := hide (Below.grown ((unhide HB4).alloc (unhide HB4).size _) hgrow5 (by have := (unhide HB4).size; simp; omega) (fun q hq => ((unhide HR1).lt q hq).1))
          have HR25 := hide (ownsRow_grownB (e' := 3) ((unhide HR2).alloc _) hgrow5 (ownsRow_block ((unhide HR1).alloc _)) (by decide))
          have HR15 := hide hown5
          clear hown5 hgrow5
          go_wp2_with (at_builtin; refine wpList_append_own _ rfl _ _ 38 rfl w0.heap.size 5 i0 _ 1 1 Try.underlying38 (unhide IINF) (unhide IZ0) (unhide IZ1) (unhide IZ2) rfl (by decide) _ _ _ rfl ((unhide HR25).alloc _) ⟨w5.heap.size, 0, none⟩ 1 1 [.int .u8 43] rfl rfl ?d1 ?d2 ?d3 ?d4 ?d5 ?_)
          case d1 => exact new_cells (blk_new _ _)
          case d2 => simp [Value.oneCell']
          case d3 => unfold maxLen; omega
          case d4 => omega
          case d5 => have := (unhide HB5).size; simp; omega
          intro v7 w7 hown7 hgrow7 _
          obtain ⟨a7, cap7, rfl⟩ := ownsRow_form hown7
          have HB7 := hide (Below.grown ((unhide HB5).alloc (unhide HB5).size _) hgrow7 (by have := (unhide HB5).size; simp; omega) (fun q hq => ((unhide HR25).lt q hq).1))
          have HR17 := hide (ownsRow_grownB (e' := 5) ((unhide HR15).alloc _) hgrow7 (ownsRow_block ((unhide HR25).alloc _)) (by decide))
          have HR27 := hide hown7
          clear hown7 hgrow7
          go_wp2
          go_roundw
          case rel =>
            refine ⟨k + 1, by omega, by go_num, ?_, ?_, unhide HB7⟩
            · rw [valsL_succ, List.map_append, unhide HVAL]; exact unhide HR17
            · rw [signsL_succ, List.map_append, unhide HSGN]; exact unhide HR27
          case measure => simp [intOf]; omega
      · have hkn : k = L.length := by omega
        have hconv : ∀ wx : World, wx.heap = wr.heap → (convert 38 9 (.slice ta k tcap)).run Try.prog wx = .ok (.string (strOfNums (signsL L 0 k))) wx := fun wx hw => conv_row (w := wx) (B := w0.heap.size) (by
          have := unhide HR20
          refine ⟨this.1, ?_⟩
          rcases this.2 with h | ⟨g, cap, cur, h1, h2, h3, h4⟩
          · exact .inl h
          · exact .inr ⟨g, cap, cur, h1, h2, by rw [hw]; exact h3, h4⟩)
        have HK := hide hkn
        clear hkn
        go_wp2
        refine wp_region_noPanic ?_
        refine wp_region_held_drew (S := fun w' => w'.heap = wr.heap) (by kernel_rfl) rfl (fun hHeld => ?_)
        refine wpAnyH_take (i := 0) (v := ?_) (at_list rfl) (by kernel_rfl) (by kernel_rfl) (by kernel_rfl) (fun _ _ _ h => h) (Or.inl ⟨by rfl, ?_⟩) (by assumption) ?_
        rotate_left
        · intro w hSw; (try dsimp only at hSw); first | (go_simp; done) | (go_simp; with_reducible rfl)
        try simp only [Act.put]
        try simp only [List.setIfInBounds_toArray]
        try simp only [List.set_cons_succ]
        try simp only [List.set_cons_zero]
        refine wpAnyH_take (i := 1) (v := ?_) (at_list rfl) (by kernel_rfl) (by kernel_rfl) (by kernel_rfl) (fun _ _ _ h => h) (Or.inl ⟨by rfl, ?_⟩) (by assumption) ?_
        rotate_left
        · intro w hSw; (try dsimp only at hSw); first | (go_simp; done) | (go_simp; with_reducible rfl)
        try simp only [Act.put]
        try simp only [List.setIfInBounds_toArray]
        try simp only [List.set_cons_succ]
        try simp only [List.set_cons_zero]
        refine wpAnyH_take (i := 2) (v := ?_) (at_list rfl) (by kernel_rfl) (by kernel_rfl) (by kernel_rfl) (fun _ _ _ h => h) (Or.inl ⟨by rfl, ?_⟩) (by assumption) ?_
        rotate_left
        · intro w hSw; (try dsimp only at hSw); first | (go_simp; done) | (go_simp; with_reducible rfl)
        try simp only [Act.put]
        try simp only [List.setIfInBounds_toArray]
        try simp only [List.set_cons_succ]
        try simp only [List.set_cons_zero]
        refine wpAnyH_take (i := 3) (v := ?_) (at_list rfl) (by kernel_rfl) (by kernel_rfl) (by kernel_rfl) (fun _ _ _ h => h) (Or.inl ⟨by rfl, ?_⟩) (by assumption) ?_
        rotate_left
        · intro w hSw; (try dsimp only at hSw); first | (go_simp; done) | (go_simp; with_reducible rfl)
        try simp only [Act.put]
        try simp only [List.setIfInBounds_toArray]
        try simp only [List.set_cons_succ]
        try simp only [List.set_cons_zero]
        refine wpAnyH_take (i := 4) (v := ?_) (at_list rfl) (by kernel_rfl) (by kernel_rfl) (by kernel_rfl) (fun _ _ _ h => h) (Or.inl ⟨by rfl, ?_⟩) (by assumption) ?_
        rotate_left
        · intro w hSw; (try dsimp only at hSw); first | (go_simp; done) | (go_simp; with_reducible rfl)
        try simp only [Act.put]
        try simp only [List.setIfInBounds_toArray]
        try simp only [List.set_cons_succ]
        try simp only [List.set_cons_zero]
        refine wpAnyH_done (by kernel_rfl) ?_ _
        refine NoPanic.normal ?_
        clear hconv
        go_wp2
        go_ret2
        refine ⟨.slice ua k ucap, by rw [unhide HCH, ← unhide HK]; rfl, ?_, (unhide HB).drew⟩
        rw [unhide HCH, ← unhide HK]
        refine IntsAt_row (B := w0.heap.size) ?_
        rw [valsL_len]
        exact (unhide HR10).drew
  · have HCH := hide (show choiceN L N = heldV (sgAt L x).st (sgAt L x).ln (sgAt L x).od (sgAt L x).kd N by rw [choiceN, hmx, if_pos (by omega), Int.toNat_natCast]; rfl)
    rw [hmx]
    rcases (unhide HSV).opened with ⟨hnil, _⟩ | ⟨gx, capx, hvx, hgx, hcapx, hcmx, hcx⟩
    · rw [hnil] at hx; simp at hx
    cases hvx
    have okx := ((unhide HG).2 x hx).1
    have OKX := hide okx
    have hj0 : (0 : Int) ≤ (x : Int) := by omega
    have hj1 : (x : Int) < (L.length : Int) := by omega
    have cwx := cells7 hcx hgx (Below.refl _ _) hx
    clear hmx okx hcx
    go_wp2_with fail
    refine (heldValue_any _ _ (sgAt L x).st (sgAt L x).ln (sgAt L x).od (sgAt L x).kd _ N _ (unhide OKX).st0 (unhide OKX).st1 (unhide OKX).ln0 (unhide OKX).ln1 (unhide OKX).od (unhide OKX).kd (unhide HF x hx) (unhide HN)).mono ?_
    rintro e w2 ⟨rfl, hb2⟩
    obtain ⟨cc, HCCV⟩ : ∃ cc, Hid (cc = heldV (sgAt L x).st (sgAt L x).ln (sgAt L x).od (sgAt L x).kd N) := ⟨_, hide rfl⟩
    rw [← unhide HCCV] at HCH
    rw [← unhide HCCV]
    have HBX0 := hide hb2
    have hszw := hb2.size
    clear hb2 cwx
    go_wp2
    go_loopw [8, 9, 10, 11, 12] (fun v t i _ _ wr => ∃ k : Nat, k ≤ L.length ∧ i = .int .i64 k ∧ wr.ownsRow w0.heap.size 3 1 v k ((valsL L N cc k).map (Value.int .i64)) ∧ wr.ownsRow w0.heap.size 5 1 t k ((signsL L cc k).map (Value.int .u8)) ∧ Below w0.heap.size w0 wr) (fun _ _ i _ _ _ => L.length - (intOf i).toNat)
    case atStart =>
      refine ⟨0, by omega, rfl, ⟨by simp [valsL], .inr ⟨_, 0, #[], rfl, hszw, blk_alloc (blk_new _ _), by simp, by simp [maxLen], by simp, by simp [valsL]⟩⟩, ⟨by simp [signsL], .inr ⟨_, 0, #[], rfl, by omega, new_two _ _ _, by simp, by simp [maxLen], by simp, by simp [signsL]⟩⟩, ((unhide HBX0).alloc hszw _).alloc (by simp; omega) _⟩
    case round =>
      obtain ⟨k, hk, rfl, hr1, hr2, hb⟩ := hrel
      obtain ⟨ta, tcap, rfl⟩ := ownsRow_form hr2
      obtain ⟨ua, ucap, rfl⟩ := ownsRow_form hr1
      have HR10 := hide hr1
      have HR20 := hide hr2
      have HB := hide hb
      clear hr1 hr2 hb
      by_cases hlt : k < L.length
      · rcases (unhide HSV).opened with ⟨hnil, _⟩ | ⟨g2, cap2, hv2, hg2, hcap2, hcm2, hc2⟩
        · rw [hnil] at hlt; simp at hlt
        cases hv2
        have HC2 := hide hc2
        obtain ⟨ok, r0, r1⟩ := (unhide HG).2 k hlt
        have OK := hide ok
        have hi0 : (0 : Int) ≤ (k : Int) := by omega
        have hi1 : (k : Int) < (L.length : Int) := by omega
        have cw := cells7 (unhide HC2) hg2 (unhide HB) hlt
        clear ok hc2
        go_wp2_with fail
        refine (isActive_any _ _ _ _ _ _ (sgAt L k).rl cc _ r0 r1).mono ?_
        rintro e w3 ⟨rfl, hb3⟩
        have HB3 := hide ((unhide HB).trans (hb3.mono (unhide HB).size))
        have HR13 := hide (ownsRow_bel (unhide HR10) hb3)
        have HR23 := hide (ownsRow_bel (unhide HR20) hb3)
        clear hb3 cw
        cases hac : activeB (sgAt L k).rl cc with
        | false =>
          have HVAL := hide (show valN L N cc k = 0 by rw [valN, hac]; rfl)
          have HSGN := hide (show signN L cc k = 45 by rw [signN, hac]; rfl)
          obtain ⟨w4, rfl⟩ : ∃ w4 : World, w4 = w3 := ⟨_, rfl⟩
          have HR1 := HR13
          have HR2 := HR23
          have HB4 := HB3
          go_wp2_with (at_builtin; refine wpList_append_own _ rfl _ _ 29 rfl w0.heap.size 3 j0 _ 1 8 Try.underlying29 (unhide JINF) (unhide JZ0) (unhide JZ1) (unhide JZ2) rfl (by decide) _ _ _ rfl ((unhide HR1).alloc _) ⟨w4.heap.size, 0, none⟩ 1 1 [.int .i64 0] rfl rfl ?c1 ?c2 ?c3 ?c4 ?c5 ?_)
          case c1 => exact new_cells (blk_new _ _)
          case c2 => simp [Value.oneCell']
          case c3 => unfold maxLen; omega
          case c4 => omega
          case c5 => have := (unhide HB4).size; simp; omega
          intro v5 w5 hown5 hgrow5 _
          obtain ⟨a5, cap5, rfl⟩ := ownsRow_form hown5
          have HB5 := hide (Below.grown ((unhide HB4).alloc (unhide HB4).size _) hgrow5 (by have := (unhide HB4).size; simp; omega) (fun q hq => ((unhide HR1).lt q hq).1))
          have HR25 := hide (ownsRow_grownB (e' := 3) ((unhide HR2).alloc _) hgrow5 (ownsRow_block ((unhide HR1).alloc _)) (by decide))
          have HR15 := hide hown5
          clear hown5 hgrow5
          go_wp2_with (at_builtin; refine wpList_append_own _ rfl _ _ 38 rfl w0.heap.size 5 i0 _ 1 1 Try.underlying38 (unhide IINF) (unhide IZ0) (unhide IZ1) (unhide IZ2) rfl (by decide) _ _ _ rfl ((unhide HR25).alloc _) ⟨w5.heap.size, 0, none⟩ 1 1 [.int .u8 45] rfl rfl ?d1 ?d2 ?d3 ?d4 ?d5 ?_)
          case d1 => exact new_cells (blk_new _ _)
          case d2 => simp [Value.oneCell']
          case d3 => unfold maxLen; omega
          case d4 => omega
          case d5 => have := (unhide HB5).size; simp; omega
          intro v7 w7 hown7 hgrow7 _
          obtain ⟨a7, cap7, rfl⟩ := ownsRow_form hown7
          have HB7 := hide (Below.grown ((unhide HB5).alloc (unhide HB5).size _) hgrow7 (by have := (unhide HB5).size; simp; omega) (fun q hq => ((unhide HR25).lt q hq).1))
          have HR17 := hide (ownsRow_grownB (e' := 5) ((unhide HR15).alloc _) hgrow7 (ownsRow_block ((unhide HR25).alloc _)) (by decide))
          have HR27 := hide hown7
          clear hown7 hgrow7
          go_wp2
          go_roundw
          case rel =>
            refine ⟨k + 1, by omega, by go_num, ?_, ?_, unhide HB7⟩
            · rw [valsL_succ, List.map_append, unhide HVAL]; exact unhide HR17
            · rw [signsL_succ, List.map_append, unhide HSGN]; exact unhide HR27
          case measure => simp [intOf]; omega
        | true =>
          have HVAL := hide (show valN L N cc k = heldV (sgAt L k).st (sgAt L k).ln (sgAt L k).od (sgAt L k).kd N by rw [valN, hac]; rfl)
          have HSGN := hide (show signN L cc k = 43 by rw [signN, hac]; rfl)
          have cw := cells7 (unhide HC2) hg2 (unhide HB3) hlt
          go_wp2_with fail
          refine (heldValue_any _ _ (sgAt L k).st (sgAt L k).ln (sgAt L k).od (sgAt L k).kd _ N _ (unhide OK).st0 (unhide OK).st1 (unhide OK).ln0 (unhide OK).ln1 (unhide OK).od (unhide OK).kd (unhide HF k hlt) (unhide HN)).mono ?_
          rintro e w4 ⟨rfl, hb4⟩
          have HB4 := hide ((unhide HB3).trans (hb4.mono (unhide HB3).size))
          have HR1 := hide (ownsRow_bel (unhide HR13) hb4)
          have HR2 := hide (ownsRow_bel (unhide HR23) hb4)
          clear hb4 cw
          go_wp2_with (at_builtin; refine wpList_append_own _ rfl _ _ 29 rfl w0.heap.size 3 j0 _ 1 8 Try.underlying29 (unhide JINF) (unhide JZ0) (unhide JZ1) (unhide JZ2) rfl (by decide) _ _ _ rfl ((unhide HR1).alloc _) ⟨w4.heap.size, 0, none⟩ 1 1 [.int .i64 (heldV (sgAt L k).st (sgAt L k).ln (sgAt L k).od (sgAt L k).kd N)] rfl rfl ?c1 ?c2 ?c3 ?c4 ?c5 ?_)
          case c1 => exact new_cells (blk_new _ _)
          case c2 => simp [Value.oneCell']
          case c3 => unfold maxLen; omega
          case c4 => omega
          case c5 => have := (unhide HB4).size; simp; omega
          intro v5 w5 hown5 hgrow5 _
          obtain ⟨a5, cap5, rfl⟩ := ownsRow_form hown5
          have HB5 := hide (Below.grown ((unhide HB4).alloc (unhide HB4).size _) hgrow5 (by have := (unhide HB4).size; simp; omega) (fun q hq => ((unhide HR1).lt q hq).1))
          have HR25 := hide (ownsRow_grownB (e' := 3) ((unhide HR2).alloc _) hgrow5 (ownsRow_block ((unhide HR1).alloc _)) (by decide))
          have HR15 := hide hown5
          clear hown5 hgrow5
          go_wp2_with (at_builtin; refine wpList_append_own _ rfl _ _ 38 rfl w0.heap.size 5 i0 _ 1 1 Try.underlying38 (unhide IINF) (unhide IZ0) (unhide IZ1) (unhide IZ2) rfl (by decide) _ _ _ rfl ((unhide HR25).alloc _) ⟨w5.heap.size, 0, none⟩ 1 1 [.int .u8 43] rfl rfl ?d1 ?d2 ?d3 ?d4 ?d5 ?_)
          case d1 => exact new_cells (blk_new _ _)
          case d2 => simp [Value.oneCell']
          case d3 => unfold maxLen; omega
          case d4 => omega
          case d5 => have := (unhide HB5).size; simp; omega
          intro v7 w7 hown7 hgrow7 _
          obtain ⟨a7, cap7, rfl⟩ := ownsRow_form hown7
          have HB7 := hide (Below.grown ((unhide HB5).alloc (unhide HB5).size _) hgrow7 (by have := (unhide HB5).size; simp; omega) (fun q hq => ((unhide HR25).lt q hq).1))
          have HR17 := hide (ownsRow_grownB (e' := 5) ((unhide HR15).alloc _) hgrow7 (ownsRow_block ((unhide HR25).alloc _)) (by decide))
          have HR27 := hide hown7
          clear hown7 hgrow7
          go_wp2
          go_roundw
          case rel =>
            refine ⟨k + 1, by omega, by go_num, ?_, ?_, unhide HB7⟩
            · rw [valsL_succ, List.map_append, unhide HVAL]; exact unhide HR17
            · rw [signsL_succ, List.map_append, unhide HSGN]; exact unhide HR27
          case measure => simp [intOf]; omega
      · have hkn : k = L.length := by omega
        have hconv : ∀ wx : World, wx.heap = wr.heap → (convert 38 9 (.slice ta k tcap)).run Try.prog wx = .ok (.string (strOfNums (signsL L cc k))) wx := fun wx hw => conv_row (w := wx) (B := w0.heap.size) (by
          have := unhide HR20
          refine ⟨this.1, ?_⟩
          rcases this.2 with h | ⟨g, cap, cur, h1, h2, h3, h4⟩
          · exact .inl h
          · exact .inr ⟨g, cap, cur, h1, h2, by rw [hw]; exact h3, h4⟩)
        have HK := hide hkn
        clear hkn
        go_wp2
        refine wp_region_noPanic ?_
        refine wp_region_held_drew (S := fun w' => w'.heap = wr.heap) (by kernel_rfl) rfl (fun hHeld => ?_)
        refine wpAnyH_take (i := 0) (v := ?_) (at_list rfl) (by kernel_rfl) (by kernel_rfl) (by kernel_rfl) (fun _ _ _ h => h) (Or.inl ⟨by rfl, ?_⟩) (by assumption) ?_
        rotate_left
        · intro w hSw; (try dsimp only at hSw); first | (go_simp; done) | (go_simp; with_reducible rfl)
        try simp only [Act.put]
        try simp only [List.setIfInBounds_toArray]
        try simp only [List.set_cons_succ]
        try simp only [List.set_cons_zero]
        refine wpAnyH_take (i := 1) (v := ?_) (at_list rfl) (by kernel_rfl) (by kernel_rfl) (by kernel_rfl) (fun _ _ _ h => h) (Or.inl ⟨by rfl, ?_⟩) (by assumption) ?_
        rotate_left
        · intro w hSw; (try dsimp only at hSw); first | (go_simp; done) | (go_simp; with_reducible rfl)
        try simp only [Act.put]
        try simp only [List.setIfInBounds_toArray]
        try simp only [List.set_cons_succ]
        try simp only [List.set_cons_zero]
        refine wpAnyH_take (i := 2) (v := ?_) (at_list rfl) (by kernel_rfl) (by kernel_rfl) (by kernel_rfl) (fun _ _ _ h => h) (Or.inl ⟨by rfl, ?_⟩) (by assumption) ?_
        rotate_left
        · intro w hSw; (try dsimp only at hSw); first | (go_simp; done) | (go_simp; with_reducible rfl)
        try simp only [Act.put]
        try simp only [List.setIfInBounds_toArray]
        try simp only [List.set_cons_succ]
        try simp only [List.set_cons_zero]
        refine wpAnyH_take (i := 3) (v := ?_) (at_list rfl) (by kernel_rfl) (by kernel_rfl) (by kernel_rfl) (fun _ _ _ h => h) (Or.inl ⟨by rfl, ?_⟩) (by assumption) ?_
        rotate_left
        · intro w hSw; (try dsimp only at hSw); first | (go_simp; done) | (go_simp; with_reducible rfl)
        try simp only [Act.put]
        try simp only [List.setIfInBounds_toArray]
        try simp only [List.set_cons_succ]
        try simp only [List.set_cons_zero]
        refine wpAnyH_take (i := 4) (v := ?_) (at_list rfl) (by kernel_rfl) (by kernel_rfl) (by kernel_rfl) (fun _ _ _ h => h) (Or.inl ⟨by rfl, ?_⟩) (by assumption) ?_
        rotate_left
        · intro w hSw; (try dsimp only at hSw); first | (go_simp; done) | (go_simp; with_reducible rfl)
        try simp only [Act.put]
        try simp only [List.setIfInBounds_toArray]
        try simp only [List.set_cons_succ]
        try simp only [List.set_cons_zero]
        refine wpAnyH_done (by kernel_rfl) ?_ _
        refine NoPanic.normal ?_
        clear hconv
        go_wp2
        go_ret2
        refine ⟨.slice ua k ucap, by rw [unhide HCH, ← unhide HK]; rfl, ?_, (unhide HB).drew⟩
        rw [unhide HCH, ← unhide HK]
        refine IntsAt_row (B := w0.heap.size) ?_
        rw [valsL_len]
        exact (unhide HR10).drew

end Go.Proofs.Ytljodhcfimklkaa

namespace Go.Proofs.Ytljodhcfimklkaa
open Go.RowKit

theorem str_push (xs : List Int) (c : Int) : strOfNums (xs ++ [c]) = strOfNums xs ++ ⟨#[UInt8.ofNat c.toNat]⟩ := by
  apply ByteArray.ext
  simp [strOfNums]

theorem vals_stay (L : List Sg) (N : Nat) (c : Int) (k : Nat) (hk : k < L.length) (h : valN L N c k = 0) :
    (valsL L N c (k + 1)).map (Value.int .i64) ++ List.replicate (L.length - (k + 1)) (.int .i64 0) = (valsL L N c k).map (Value.int .i64) ++ List.replicate (L.length - k) (.int .i64 0) := by
  obtain ⟨n, hn⟩ : ∃ n, L.length - k = n + 1 := ⟨L.length - k - 1, by omega⟩
  rw [hn, show L.length - (k + 1) = n by omega, valsL_succ, h, List.replicate_succ]
  simp
theorem vals_set (L : List Sg) (N : Nat) (c : Int) (k : Nat) (hk : k < L.length) :
    ((valsL L N c k).map (Value.int .i64) ++ List.replicate (L.length - k) (Value.int .i64 0)).set k (Value.int .i64 (valN L N c k)) = (valsL L N c (k + 1)).map (Value.int .i64) ++ List.replicate (L.length - (k + 1)) (Value.int .i64 0) := by
  have h1 : ((valsL L N c k).map (Value.int .i64)).length = k := by simp [valsL]
  obtain ⟨n, hn⟩ : ∃ n, L.length - k = n + 1 := ⟨L.length - k - 1, by omega⟩
  rw [List.set_append_right _ _ (by omega), h1, Nat.sub_self, hn, show L.length - (k + 1) = n by omega, valsL_succ, List.replicate_succ, List.set_cons_zero]
  simp

theorem ownsRow_to {w : World} {B B' e s : Nat} {v : Value} {n : Nat} {xs : List Value} (h : w.ownsRow B e s v n xs) (hb : B' ≤ B) : w.ownsRow B' e s v n xs := by
  refine ⟨h.1, ?_⟩
  rcases h.2 with hn | ⟨g, cap, cur, hv, hg, r⟩
  · exact .inl hn
  · exact .inr ⟨g, cap, cur, hv, Nat.le_trans hb hg, r⟩

set_option maxRecDepth 100000 in
set_option maxHeartbeats 4000000 in
theorem rUnpackedO_any (id p : ByteArray) (sz pl : Int) (v : Value) (L : List Sg) (w : World) (h : RSigsAt w v L) (hg : Good L) (h8 : p.size ≤ 8) (hwi : Within L p.size) :
    Calls Try.prog 50 #[.agg #[.string id, .int .i64 sz, v, .int .i64 pl], .string p] w fun e w' => ∃ u, e = .returned (.tuple #[u, .string (strOfNums (signsL L (choiceN L (payTo p p.size)) L.length))]) ∧ w'.ownsRow w.heap.size 3 1 u L.length ((valsL L (payTo p p.size) (choiceN L (payTo p p.size)) L.length).map (Value.int .i64)) ∧ Below w.heap.size w w' := by
  obtain ⟨j0, jinf, jz0, jz1, jz2⟩ := info_parts Try.infoInt
  have JINF := hide jinf
  have JZ0 := hide jz0
  have JZ1 := hide jz1
  have JZ2 := hide jz2
  clear jinf jz0 jz1 jz2
  have hl := hg.1
  have HG := hide hg
  have HWI := hide hwi
  have HSV := hide h
  obtain ⟨va, vcap, rfl⟩ := ownsRow_form h
  obtain ⟨N, HNN⟩ : ∃ N, Hid (N = payTo p p.size) := ⟨_, hide rfl⟩
  rw [← unhide HNN]
  clear hg hwi h
  have hbox := fun (wx : World) (h : Below (w.heap.size + 1) (w.alloc (.cells #[.string id, .int .i64 sz, .slice va L.length vcap, .int .i64 pl] 45)) wx) => box_cell h
  go_enter Try.func50, Try.ntmps50
  go_wp2_with fail
  refine (rMux_any id sz pl _ L _ (ownsRow_below (unhide HSV) ((Below.refl _ _).alloc (Nat.le_refl _) _)) hl).mono ?_
  rintro e w1 ⟨rfl, hb1⟩
  have HB1 : Hid (Below (w.heap.size + 1) (w.alloc (.cells #[.string id, .int .i64 sz, .slice va L.length vcap, .int .i64 pl] 45)) w1) := hide (hb1.mono (by simp))
  have hbw1 := hbox _ (unhide HB1)
  clear hb1
  rcases mux_range L with hmx | ⟨x, hx, hmx, _⟩
  · have HCH := hide (show choiceN L N = 0 by rw [choiceN, hmx]; rfl)
    rw [hmx]
    clear hmx
    go_wp2_with (at_make; refine wpList_make_full _ rfl _ _ 29 rfl (w.heap.size + 1) 3 j0 (.int .i64 0) 1 Try.underlying29 (unhide JINF) (unhide JZ0) (unhide JZ1) .i64 .i64 (L.length : Int) (L.length : Int) L.length rfl rfl rfl rfl (by rw [unhide JZ2]; omega) (by unfold maxLen; omega) (by have := (unhide HB1).size; simp at this; omega) ?_)
    intro w2 hown hgrow
    have HB2 := hide (Below.grown (unhide HB1) hgrow (by have := (unhide HB1).size; simp at this; omega) (by simp))
    obtain ⟨wo, HWO⟩ : ∃ wo : World, Hid (wo = w1) := ⟨_, hide rfl⟩
    rw [← unhide HWO] at hown
    rw [← unhide HWO]
    have HROW : Hid (w2.ownsRow (w.heap.size + 1) 3 1 (.slice (some ⟨wo.heap.size, 0, none⟩) L.length L.length) L.length ((valsL L N 0 0).map (Value.int .i64) ++ List.replicate (L.length - 0) (.int .i64 0))) := hide (by rw [toList_madeCells_one] at hown; simpa [valsL] using hown)
    clear hown hgrow
    have hbw := hbox _ (unhide HB2)
    go_wp2
    clear hbw
    go_loopw [9, 10, 11] (fun t i _ wr => ∃ k : Nat, k ≤ L.length ∧ i = .int .i64 k ∧ t = .string (strOfNums (signsL L 0 k)) ∧ wr.ownsRow (w.heap.size + 1) 3 1 (.slice (some ⟨wo.heap.size, 0, none⟩) L.length L.length) L.length ((valsL L N 0 k).map (Value.int .i64) ++ List.replicate (L.length - k) (.int .i64 0)) ∧ Below (w.heap.size + 1) (w.alloc (.cells #[.string id, .int .i64 sz, .slice va L.length vcap, .int .i64 pl] 45)) wr) (fun _ i _ _ => L.length - (intOf i).toNat)
    case atStart => exact ⟨0, by omega, rfl, rfl, unhide HROW, unhide HB2⟩
    case round =>
      obtain ⟨k, hk, rfl, rfl, hrow, hb⟩ := hrel
      have HR := hide hrow
      have HB := hide hb
      have hbw := hbox _ hb
      clear hrow hb
      by_cases hlt : k < L.length
      · obtain ⟨ok, r0, r1⟩ := (unhide HG).2 k hlt
        have OK := hide ok
        have hi0 : (0 : Int) ≤ (k : Int) := by omega
        have hi1 : (k : Int) < (L.length : Int) := by omega
        have hsz : (strOfNums (signsL L 0 k)).size ≤ 8 := by rw [strOfNums_size]; simp [signsL]; omega
        clear ok
        go_wp2_with fail
        refine (rActive_any id sz pl _ L k 0 _ (ownsRow_below (unhide HSV) (box_below (unhide HB))) hl hlt r0 r1).mono ?_
        rintro e w3 ⟨rfl, hb3⟩
        have HB3 := hide (box_next (unhide HB) hb3)
        have HR3 := hide (ownsRow_bel (unhide HR) hb3)
        clear hb3 hbw
        cases hac : activeB (sgAt L k).rl 0 with
        | false =>
          have HVAL := hide (show valN L N 0 k = 0 by rw [valN, hac]; rfl)
          have HSGN := hide (show signN L 0 k = 45 by rw [signN, hac]; rfl)
          go_wp2
          go_roundw
          case rel =>
            refine ⟨k + 1, by omega, by go_num, ?_, ?_, unhide HB3⟩
            · rw [signsL_succ, unhide HSGN, str_push]; rfl
            · rw [vals_stay L N 0 k hlt (unhide HVAL)]; exact unhide HR3
          case measure => simp [intOf]; omega
        | true =>
          have HVAL := hide (show valN L N 0 k = heldV (sgAt L k).st (sgAt L k).ln (sgAt L k).od (sgAt L k).kd N by rw [valN, hac]; rfl)
          have HSGN := hide (show signN L 0 k = 43 by rw [signN, hac]; rfl)
          rcases (unhide HSV).opened with ⟨hnil, _⟩ | ⟨g2, cap2, hv2, hg2, hcap2, hcm2, hc2⟩
          · rw [hnil] at hlt; simp at hlt
          cases hv2
          have cw := rcells7 hc2 hg2 (box_below (unhide HB3)) hlt
          have hbw := hbox _ (unhide HB3)
          clear hc2
          go_wp2_with fail
          refine (rHolds_any _ (sgAt L k).st (sgAt L k).ln (sgAt L k).od (sgAt L k).kd _ _ p _ (unhide OK).st0 (unhide OK).st1 (unhide OK).ln0 (unhide OK).ln1 (unhide OK).od h8 (fun i hi => unhide HWI k hlt i hi)).mono ?_
          rintro e w4 ⟨rfl, hb4⟩
          have HB4 := hide (box_next (unhide HB3) hb4)
          have HR4 := hide (ownsRow_bel (unhide HR3) hb4)
          clear hb4 cw hbw
          rw [← unhide HNN]
          have hoc := (unhide HR4).cellAt k (by omega)
          have hof := (unhide HR4).frozenAt k
          have hst := (unhide HR4).stored k (.int .i64 (valN L N 0 k))
          rw [vals_set L N 0 k hlt] at hst
          have HST := hide hst
          have hgeb := ((unhide HR4).lt _ rfl).1
          obtain ⟨ov, hov⟩ : ∃ ov, w4.cell? ⟨wo.heap.size, k, none⟩ = some ov := ⟨_, hoc.trans (List.getElem?_eq_getElem (by simp [valsL]; omega))⟩
          rw [← unhide HVAL]
          clear hst hoc
          go_wp2
          go_roundw
          case rel =>
            refine ⟨k + 1, by omega, by go_num, ?_, (unhide HST).1, (unhide HB4).setCell hgeb _⟩
            rw [signsL_succ, unhide HSGN, str_push]; rfl
          case measure => simp [intOf]; omega
      · have hkn : k = L.length := by omega
        have HK := hide hkn
        clear hkn
        go_wp2
        go_ret2
        refine ⟨.slice (some ⟨wo.heap.size, 0, none⟩) L.length L.length, by rw [unhide HCH, ← unhide HK]; rfl, ?_, box_below (unhide HB)⟩
        rw [unhide HCH]
        have h9 := unhide HR
        rw [unhide HK, Nat.sub_self, List.replicate_zero, List.append_nil] at h9
        exact ownsRow_to h9 (by omega)
  · have HCH := hide (show choiceN L N = heldV (sgAt L x).st (sgAt L x).ln (sgAt L x).od (sgAt L x).kd N by rw [choiceN, hmx, if_pos (by omega), Int.toNat_natCast]; rfl)
    rw [hmx]
    rcases (unhide HSV).opened with ⟨hnil, _⟩ | ⟨gx, capx, hvx, hgx, hcapx, hcmx, hcx⟩
    · rw [hnil] at hx; simp at hx
    cases hvx
    have okx := ((unhide HG).2 x hx).1
    have OKX := hide okx
    have hj0 : (0 : Int) ≤ (x : Int) := by omega
    have hj1 : (x : Int) < (L.length : Int) := by omega
    have cwx := rcells7 hcx hgx (box_below (unhide HB1)) hx
    clear hmx okx hcx
    go_wp2_with fail
    refine (rHolds_any _ (sgAt L x).st (sgAt L x).ln (sgAt L x).od (sgAt L x).kd _ _ p _ (unhide OKX).st0 (unhide OKX).st1 (unhide OKX).ln0 (unhide OKX).ln1 (unhide OKX).od h8 (fun i hi => unhide HWI x hx i hi)).mono ?_
    rintro e w1b ⟨rfl, hb1b⟩
    rw [← unhide HNN]
    obtain ⟨cc, HCCV⟩ : ∃ cc, Hid (cc = heldV (sgAt L x).st (sgAt L x).ln (sgAt L x).od (sgAt L x).kd N) := ⟨_, hide rfl⟩
    rw [← unhide HCCV] at HCH
    rw [← unhide HCCV]
    have HB1o := HB1
    clear HB1
    have HB1 := hide (box_next (unhide HB1o) hb1b)
    clear hb1b cwx hbw1
    have hbw1 := hbox _ (unhide HB1)
    go_wp2_with (at_make; refine wpList_make_full _ rfl _ _ 29 rfl (w.heap.size + 1) 3 j0 (.int .i64 0) 1 Try.underlying29 (unhide JINF) (unhide JZ0) (unhide JZ1) .i64 .i64 (L.length : Int) (L.length : Int) L.length rfl rfl rfl rfl (by rw [unhide JZ2]; omega) (by unfold maxLen; omega) (by have := (unhide HB1).size; simp at this; omega) ?_)
    intro w2 hown hgrow
    have HB2 := hide (Below.grown (unhide HB1) hgrow (by have := (unhide HB1).size; simp at this; omega) (by simp))
    obtain ⟨wo, HWO⟩ : ∃ wo : World, Hid (wo = w1b) := ⟨_, hide rfl⟩
    rw [← unhide HWO] at hown
    rw [← unhide HWO]
    have HROW : Hid (w2.ownsRow (w.heap.size + 1) 3 1 (.slice (some ⟨wo.heap.size, 0, none⟩) L.length L.length) L.length ((valsL L N cc 0).map (Value.int .i64) ++ List.replicate (L.length - 0) (.int .i64 0))) := hide (by rw [toList_madeCells_one] at hown; simpa [valsL] using hown)
    clear hown hgrow
    have hbw := hbox _ (unhide HB2)
    go_wp2
    clear hbw
    go_loopw [9, 10, 11] (fun t i _ wr => ∃ k : Nat, k ≤ L.length ∧ i = .int .i64 k ∧ t = .string (strOfNums (signsL L cc k)) ∧ wr.ownsRow (w.heap.size + 1) 3 1 (.slice (some ⟨wo.heap.size, 0, none⟩) L.length L.length) L.length ((valsL L N cc k).map (Value.int .i64) ++ List.replicate (L.length - k) (.int .i64 0)) ∧ Below (w.heap.size + 1) (w.alloc (.cells #[.string id, .int .i64 sz, .slice (some ⟨gx, 0, none⟩) L.length vcap, .int .i64 pl] 45)) wr) (fun _ i _ _ => L.length - (intOf i).toNat)
    case atStart => exact ⟨0, by omega, rfl, rfl, unhide HROW, unhide HB2⟩
    case round =>
      obtain ⟨k, hk, rfl, rfl, hrow, hb⟩ := hrel
      have HR := hide hrow
      have HB := hide hb
      have hbw := hbox _ hb
      clear hrow hb
      by_cases hlt : k < L.length
      · obtain ⟨ok, r0, r1⟩ := (unhide HG).2 k hlt
        have OK := hide ok
        have hi0 : (0 : Int) ≤ (k : Int) := by omega
        have hi1 : (k : Int) < (L.length : Int) := by omega
        have hsz : (strOfNums (signsL L cc k)).size ≤ 8 := by rw [strOfNums_size]; simp [signsL]; omega
        clear ok
        go_wp2_with fail
        refine (rActive_any id sz pl _ L k cc _ (ownsRow_below (unhide HSV) (box_below (unhide HB))) hl hlt r0 r1).mono ?_
        rintro e w3 ⟨rfl, hb3⟩
        have HB3 := hide (box_next (unhide HB) hb3)
        have HR3 := hide (ownsRow_bel (unhide HR) hb3)
        clear hb3 hbw
        cases hac : activeB (sgAt L k).rl cc with
        | false =>
          have HVAL := hide (show valN L N cc k = 0 by rw [valN, hac]; rfl)
          have HSGN := hide (show signN L cc k = 45 by rw [signN, hac]; rfl)
          go_wp2
          go_roundw
          case rel =>
            refine ⟨k + 1, by omega, by go_num, ?_, ?_, unhide HB3⟩
            · rw [signsL_succ, unhide HSGN, str_push]; rfl
            · rw [vals_stay L N cc k hlt (unhide HVAL)]; exact unhide HR3
          case measure => simp [intOf]; omega
        | true =>
          have HVAL := hide (show valN L N cc k = heldV (sgAt L k).st (sgAt L k).ln (sgAt L k).od (sgAt L k).kd N by rw [valN, hac]; rfl)
          have HSGN := hide (show signN L cc k = 43 by rw [signN, hac]; rfl)
          rcases (unhide HSV).opened with ⟨hnil, _⟩ | ⟨g2, cap2, hv2, hg2, hcap2, hcm2, hc2⟩
          · rw [hnil] at hlt; simp at hlt
          cases hv2
          have cw := rcells7 hc2 hg2 (box_below (unhide HB3)) hlt
          have hbw := hbox _ (unhide HB3)
          clear hc2
          go_wp2_with fail
          refine (rHolds_any _ (sgAt L k).st (sgAt L k).ln (sgAt L k).od (sgAt L k).kd _ _ p _ (unhide OK).st0 (unhide OK).st1 (unhide OK).ln0 (unhide OK).ln1 (unhide OK).od h8 (fun i hi => unhide HWI k hlt i hi)).mono ?_
          rintro e w4 ⟨rfl, hb4⟩
          have HB4 := hide (box_next (unhide HB3) hb4)
          have HR4 := hide (ownsRow_bel (unhide HR3) hb4)
          clear hb4 cw hbw
          rw [← unhide HNN]
          have hoc := (unhide HR4).cellAt k (by omega)
          have hof := (unhide HR4).frozenAt k
          have hst := (unhide HR4).stored k (.int .i64 (valN L N cc k))
          rw [vals_set L N cc k hlt] at hst
          have HST := hide hst
          have hgeb := ((unhide HR4).lt _ rfl).1
          obtain ⟨ov, hov⟩ : ∃ ov, w4.cell? ⟨wo.heap.size, k, none⟩ = some ov := ⟨_, hoc.trans (List.getElem?_eq_getElem (by simp [valsL]; omega))⟩
          rw [← unhide HVAL]
          clear hst hoc
          go_wp2
          go_roundw
          case rel =>
            refine ⟨k + 1, by omega, by go_num, ?_, (unhide HST).1, (unhide HB4).setCell hgeb _⟩
            rw [signsL_succ, unhide HSGN, str_push]; rfl
          case measure => simp [intOf]; omega
      · have hkn : k = L.length := by omega
        have HK := hide hkn
        clear hkn
        go_wp2
        go_ret2
        refine ⟨.slice (some ⟨wo.heap.size, 0, none⟩) L.length L.length, by rw [unhide HCH, ← unhide HK]; rfl, ?_, box_below (unhide HB)⟩
        rw [unhide HCH]
        have h9 := unhide HR
        rw [unhide HK, Nat.sub_self, List.replicate_zero, List.append_nil] at h9
        exact ownsRow_to h9 (by omega)

theorem rUnpacked_any (id p : ByteArray) (sz pl : Int) (v : Value) (L : List Sg) (w : World) (h : RSigsAt w v L) (hg : Good L) (h8 : p.size ≤ 8) (hwi : Within L p.size) :
    Calls Try.prog 50 #[.agg #[.string id, .int .i64 sz, v, .int .i64 pl], .string p] w fun e w' => ∃ u, e = .returned (.tuple #[u, .string (strOfNums (signsL L (choiceN L (payTo p p.size)) L.length))]) ∧ IntsAt w' u (valsL L (payTo p p.size) (choiceN L (payTo p p.size)) L.length) ∧ Below w.heap.size w w' := by
  refine (rUnpackedO_any id p sz pl v L w h hg h8 hwi).mono ?_
  rintro e w' ⟨u, rfl, ho, hb⟩
  exact ⟨u, rfl, IntsAt_row (B := w.heap.size) (by rw [valsL_len]; exact ho), hb⟩

end Go.Proofs.Ytljodhcfimklkaa

namespace Go.Proofs.Ytljodhcfimklkaa
open Go.RowKit

/-- What the document's Find answers in a text that is a database. -/
def RFOut (M : List Mg) (id : ByteArray) (e : Ending) (w' : World) : Prop :=
  (msgIx M id = -1 ∧ e = .returned (.tuple #[.agg #[.string { data := #[] }, .int .i64 0, .slice none 0 0, .int .i64 0], .bool false])) ∨
    ∃ (k : Nat) (sv : Value), k < M.length ∧ msgIx M id = k ∧ e = .returned (.tuple #[.agg #[.string (mAt M k).id, .int .i64 (mAt M k).sz, sv, .int .i64 (mAt M k).pl], .bool true]) ∧ RSigsAt w' sv (mAt M k).sigs

set_option maxRecDepth 100000 in
set_option maxHeartbeats 1000000 in
theorem rFind_any (s id : ByteArray) (M : List Mg) (w : World) (hs : s.size ≤ 140737488351232) (hpd : pDb s 4 0 = .inr M) :
    Calls Try.prog 24 #[.string s, .string id] w fun e w' => RFOut M id e w' ∧ Below w.heap.size w w' := by
  have HPD := hide hpd
  clear hpd
  go_enter Try.func24, Try.ntmps24
  go_wp2_with fail
  refine (rRead_any s _ hs).mono ?_
  rintro e w1 ⟨hout, hb1⟩
  rw [RDbOut, unhide HPD] at hout
  dsimp only at hout
  obtain ⟨v, P, q, hPM, rfl, hm, hl, hok⟩ := hout
  have HB1 := hide (show Below (w.heap.size + 1) (w.alloc (.cells #[.string { data := #[] }, .int .i64 0, .slice none 0 0, .int .i64 0] 45)) w1 from hb1.mono (by simp))
  have hx := fun j => box_cell (unhide HB1) j
  have hlt1 : w.heap.size < w1.heap.size := by have := (unhide HB1).size; simp at this; omega
  have hf := fun j => (unhide HB1).frozen (p := ⟨w.heap.size, j, none⟩) (by simp)
  have hblk : w1.heap[w.heap.size]? = some (.cells #[.string { data := #[] }, .int .i64 0, .slice none 0 0, .int .i64 0] 45 (0, 0)) := by rw [(unhide HB1).block w.heap.size (by omega)]; exact blk_new _ _
  have HBLK := hide hblk
  have HM := hide hm
  have HPM := hide hPM
  have hlen : M.length = P.length := by rw [← hPM]; simp
  clear hb1 hok hPM hblk hm
  rcases (unhide HM).opened with ⟨rfl, a, c, rfl⟩ | ⟨g, cap, rfl, hg, hcap, hcm, hc⟩
  · have HL := hide hlen
    clear hlen
    go_wp2
    refine wp_loop_rounds 1 ?_
    rw [rounds_succ]
    go_wp2
    exact bodyPost_ret (v := .tuple #[.agg #[.string { data := #[] }, .int .i64 0, .slice none 0 0, .int .i64 0], .bool false]) (by simp [results, Try.results24, go_sem, hx]) rfl ⟨.inl ⟨by rw [msgIx, unhide HL]; rfl, rfl⟩, set4_below (box_below (unhide HB1)) _ _ _ _⟩
  have HC := hide hc
  have HLEN := hide hlen
  unfold maxLen at hcm
  clear hc hlen
  go_wp2
  go_loop [9] (fun i => ∃ k : Nat, k ≤ P.length ∧ i = .int .i64 k ∧ (∀ j, j < k → decide ((mAt M j).id = id) = false)) (fun i => P.length - (intOf i).toNat)
  case atStart => exact ⟨0, by omega, rfl, by intro j hj; omega⟩
  case round =>
    obtain ⟨k, hk, rfl, hno⟩ := hrel
    have HN := hide hno
    clear hno
    by_cases hlt : k < P.length
    · obtain ⟨c0, c1, c2, c3⟩ := rmcells4 (unhide HC) hg (Below.refl _ _) hlt
      have hsg : RSigsAt w1 (mgAt P k).2 (mgAt P k).1.sigs := (unhide HM).2 _ (mgAt_mem hlt)
      obtain ⟨va, vcap, hva⟩ := ownsRow_form hsg
      rw [hva] at c2 hsg
      have HSG := hide hsg
      have hmk : mAt M k = (mgAt P k).1 := by rw [← unhide HPM, mAt_fst]
      have HMK := hide hmk
      clear hva hsg hmk
      by_cases hid : (mgAt P k).1.id = id
      · have hb3 : ((mgAt P k).1.id.toList == id.toList) = true := by rw [hid]; simp
        have HID := hide hid
        clear hid
        go_wp2
        have hix : msgIx M id = k := findIx_is (unhide HN) (by have := unhide HLEN; omega) (by rw [unhide HMK]; simpa using unhide HID)
        exact bodyPost_ret (v := .tuple #[.agg #[.string (mgAt P k).1.id, .int .i64 (mgAt P k).1.sz, .slice va (mgAt P k).1.sigs.length vcap, .int .i64 (mgAt P k).1.pl], .bool true]) (by simp [results, Try.results24, go_sem, hx]) rfl
          ⟨.inr ⟨k, _, by have := unhide HLEN; omega, hix, by rw [unhide HMK], by rw [unhide HMK]; exact set4_sigs (unhide HSG) (unhide HBLK) (by decide) _ _ _ _⟩, set4_below (box_below (unhide HB1)) _ _ _ _⟩
      · have hb3 : ((mgAt P k).1.id.toList == id.toList) = false := str_ne hid
        have HID := hide hid
        clear hid
        go_wp2
        go_round
        case rel => exact ⟨k + 1, by omega, by go_num, fun j hj => by
            by_cases e : j = k
            · subst e; rw [unhide HMK]; simpa using unhide HID
            · exact unhide HN j (by omega)⟩
        case measure => simp [intOf]; omega
    · go_wp2
      exact bodyPost_ret (v := .tuple #[.agg #[.string { data := #[] }, .int .i64 0, .slice none 0 0, .int .i64 0], .bool false]) (by simp [results, Try.results24, go_sem, hx]) rfl ⟨.inl ⟨findIx_none (fun j hj => unhide HN j (by have := unhide HLEN; omega)), rfl⟩, set4_below (box_below (unhide HB1)) _ _ _ _⟩

end Go.Proofs.Ytljodhcfimklkaa

namespace Go.Proofs.Ytljodhcfimklkaa
open Go.RowKit

/-- P5, of a message. -/
def upMsg (m : Mg) (p : ByteArray) : List Int × ByteArray × Int × Int :=
  if (p.size : Int) ≠ m.sz then ([], noBytes, 10, 0)
  else (valsL m.sigs (payTo p p.size) (choiceN m.sigs (payTo p p.size)) m.sigs.length, strOfNums (signsL m.sigs (choiceN m.sigs (payTo p p.size)) m.sigs.length), 0, 0)
/-- P5. -/
def up (s id p : ByteArray) : List Int × ByteArray × Int × Int :=
  if 8 < p.size then ([], noBytes, 1, 0) else
  if chkE s ≠ 0 then ([], noBytes, chkE s, chkP s) else
  match pDb s 4 0 with
  | .inl _ => ([], noBytes, 0, 0)
  | .inr M => if msgIx M id < 0 then ([], noBytes, 7, 0) else upMsg (mAt M (msgIx M id).toNat) p

theorem up_eta {x : List Int × ByteArray × Int × Int} {l : List Int} {a : ByteArray} {b c : Int} (h : x = (l, a, b, c)) : x.1 = l ∧ x.2.1 = a ∧ x.2.2.1 = b ∧ x.2.2.2 = c := by rw [h]; exact ⟨rfl, rfl, rfl, rfl⟩
theorem up_long {s id p : ByteArray} (h : 8 < p.size) : up s id p = ([], noBytes, 1, 0) := by rw [up, if_pos h]
theorem up_bad {s id p : ByteArray} (h8 : ¬ 8 < p.size) (h : chkE s ≠ 0) : up s id p = ([], noBytes, chkE s, chkP s) := by rw [up, if_neg h8, if_pos h]
theorem up_id {s id p : ByteArray} {M : List Mg} (h8 : ¬ 8 < p.size) (h : chkE s = 0) (hp : pDb s 4 0 = .inr M) (hi : msgIx M id = -1) : up s id p = ([], noBytes, 7, 0) := by
  rw [up, if_neg h8, if_neg (by omega), hp]; simp only; rw [if_pos (by omega)]
theorem up_msg {s id p : ByteArray} {M : List Mg} {k : Nat} (h8 : ¬ 8 < p.size) (h : chkE s = 0) (hp : pDb s 4 0 = .inr M) (hi : msgIx M id = k) : up s id p = upMsg (mAt M k) p := by
  rw [up, if_neg h8, if_neg (by omega), hp]; simp only; rw [if_neg (by omega), hi, Int.toNat_natCast]

/-- What both calls answer. -/
def UpOut (s id p : ByteArray) (e : Ending) (w' : World) : Prop :=
  ∃ u, e = .returned (.tuple #[u, .string (up s id p).2.1, .int .i64 (up s id p).2.2.1, .int .i64 (up s id p).2.2.2]) ∧ IntsAt w' u (up s id p).1

theorem IntsAt_nil (w : World) : IntsAt w (.slice none 0 0) [] := ⟨none, 0, rfl, by simp, by simp, by simp⟩

theorem upOut_err {s id p : ByteArray} {b c : Int} {w : World} (h : up s id p = ([], noBytes, b, c)) : UpOut s id p (.returned (.tuple #[.slice none 0 0, .string { data := #[] }, .int .i64 b, .int .i64 c])) w := by
  rw [UpOut, h]; exact ⟨_, rfl, IntsAt_nil w⟩

theorem upOut_ok {s id p : ByteArray} {l : List Int} {a : ByteArray} {u : Value} {w : World} (h : up s id p = (l, a, 0, 0)) (hu : IntsAt w u l) : UpOut s id p (.returned (.tuple #[u, .string a, .int .i64 0, .int .i64 0])) w := by
  rw [UpOut, h]; exact ⟨_, rfl, hu⟩

set_option maxRecDepth 100000 in
set_option maxHeartbeats 2000000 in
theorem Unpack_any (s id p : ByteArray) (w : World) (hs : s.size ≤ maxLen) (hid : id.size ≤ maxLen) :
    Calls Try.prog 21 #[.string s, .string id, .string p] w fun e w' => UpOut s id p e w' ∧ Below w.heap.size w w' := by
  go_enter Try.func21, Try.ntmps21
  by_cases h8 : 8 < p.size
  · have HU := hide (up_long (s := s) (id := id) h8)
    have h8i : (8 : Int) < (p.size : Int) := by omega
    clear h8
    go_wp2
    exact bodyPost_ret (v := .tuple #[.slice none 0 0, .string { data := #[] }, .int .i64 1, .int .i64 0]) (by simp [results, Try.results21, go_sem]) rfl ⟨upOut_err (unhide HU), Below.refl _ _⟩
  have h8i : ¬ (8 : Int) < (p.size : Int) := by omega
  have H8 := hide h8
  clear h8
  go_wp2_with fail
  refine (soundMessage_any s id _ hs hid).mono ?_
  rintro e w1 ⟨hout, hb1⟩
  have HB1 := hide hb1
  clear hb1
  rcases hout with ⟨hz, rfl⟩ | ⟨hz, M, hpd, hout⟩
  · have HU := hide (up_bad (id := id) (unhide H8) hz)
    have hz2 : (chkE s != 0) = true := by simpa using hz
    clear hz
    go_wp2
    exact bodyPost_ret (v := .tuple #[.slice none 0 0, .string { data := #[] }, .int .i64 (chkE s), .int .i64 (chkP s)]) (by simp [results, Try.results21, go_sem]) rfl ⟨upOut_err (unhide HU), (unhide HB1).alloc (unhide HB1).size _⟩
  rcases hout with ⟨hix, rfl⟩ | ⟨k, sv, hk, hix, rfl, hsv, hmo⟩
  · have HU := hide (up_id (unhide H8) hz hpd hix)
    clear hz hpd hix
    go_wp2
    exact bodyPost_ret (v := .tuple #[.slice none 0 0, .string { data := #[] }, .int .i64 7, .int .i64 0]) (by simp [results, Try.results21, go_sem]) rfl ⟨upOut_err (unhide HU), (unhide HB1).alloc (unhide HB1).size _⟩
  obtain ⟨m, hm⟩ : ∃ m, m = mAt M k := ⟨_, rfl⟩
  have HPK := hide (up_msg (unhide H8) hz hpd hix)
  have HG := hide (good_of hpd hk).2
  have HAF := hide (sound_fits hz hpd hk)
  rw [← hm] at hsv hmo HPK HG HAF
  rw [← hm]
  obtain ⟨va, vcap, rfl⟩ := ownsRow_form hsv
  have HSV := hide hsv
  clear hz hpd hix hsv hmo hm hk
  have HBB : Hid (Below (w1.heap.size + 1) (w1.alloc (.cells #[.int .i64 m.pl, .int .i64 (idNum m.id), .int .i64 m.sz, .slice va m.sigs.length vcap] 74)) (w1.alloc (.cells #[.int .i64 m.pl, .int .i64 (idNum m.id), .int .i64 m.sz, .slice va m.sigs.length vcap] 74))) := hide (Below.refl _ _)
  by_cases hln : (p.size : Int) = m.sz
  · have hl2 : ((p.size : Int) != m.sz) = false := by rw [hln]; simp
    have HU := hide (show up s id p = _ by rw [unhide HPK, upMsg, if_neg (by simpa using hln)])
    clear hln
    go_wp2_with fail
    refine (payloadBits_any p _ (by have := unhide H8; omega)).mono ?_
    rintro e w2 ⟨rfl, rfl⟩
    go_wp2_with fail
    refine (unpackBits_any _ m.sigs _ _ (ownsRow_below (unhide HSV) (box_below (unhide HBB))) (unhide HG) (unhide HAF) (payTo_64 p p.size (by have := unhide H8; omega))).mono ?_
    rintro e w3 ⟨u, rfl, hu, hb3⟩
    have HB3 := hide (box_next (unhide HBB) hb3)
    have HUU := hide hu
    obtain ⟨ua, ucap, rfl, hu1, hu2, hu3⟩ := hu
    clear hb3 hu1 hu2 hu3
    go_wp2
    exact bodyPost_ret (v := .tuple #[.slice ua (valsL m.sigs (payTo p p.size) (choiceN m.sigs (payTo p p.size)) m.sigs.length).length ucap, .string (strOfNums (signsL m.sigs (choiceN m.sigs (payTo p p.size)) m.sigs.length)), .int .i64 0, .int .i64 0]) (by simp [results, Try.results21, go_sem]) rfl ⟨upOut_ok (unhide HU) (unhide HUU), (unhide HB1).trans ((box_below (unhide HB3)).mono (unhide HB1).size)⟩
  · have HU := hide (show up s id p = _ by rw [unhide HPK, upMsg, if_pos hln])
    have hl2 : ((p.size : Int) != m.sz) = true := by rw [bne_iff_ne]; exact hln
    clear hln
    go_wp2
    exact bodyPost_ret (v := .tuple #[.slice none 0 0, .string { data := #[] }, .int .i64 10, .int .i64 0]) (by simp [results, Try.results21, go_sem]) rfl ⟨upOut_err (unhide HU), (unhide HB1).alloc (unhide HB1).size _⟩

set_option maxRecDepth 100000 in
set_option maxHeartbeats 2000000 in
theorem rUnpack_any (s id p : ByteArray) (w : World) (hs : s.size ≤ maxLen) :
    Calls Try.prog 22 #[.string s, .string id, .string p] w fun e w' => UpOut s id p e w' ∧ Below w.heap.size w w' := by
  go_enter Try.func22, Try.ntmps22
  by_cases h320 : 320 < s.size
  · have hsi : (320 : Int) < (s.size : Int) := by omega
    have HU : Hid (up s id p = ([], noBytes, 1, 0)) := hide (by
      by_cases h8 : 8 < p.size
      · exact up_long h8
      · rw [up_bad h8 (by rw [(chk_long h320).1]; omega), (chk_long h320).1, (chk_long h320).2])
    clear h320
    go_wp2
    exact bodyPost_ret (v := .tuple #[.slice none 0 0, .string { data := #[] }, .int .i64 1, .int .i64 0]) (by simp [results, Try.results22, go_sem]) rfl ⟨upOut_err (unhide HU), Below.refl _ _⟩
  have hsi : ¬ (320 : Int) < (s.size : Int) := by omega
  have H320 := hide h320
  clear h320
  by_cases h8 : 8 < p.size
  · have HU := hide (up_long (s := s) (id := id) h8)
    have h8i : (8 : Int) < (p.size : Int) := by omega
    clear h8
    go_wp2
    exact bodyPost_ret (v := .tuple #[.slice none 0 0, .string { data := #[] }, .int .i64 1, .int .i64 0]) (by simp [results, Try.results22, go_sem]) rfl ⟨upOut_err (unhide HU), Below.refl _ _⟩
  have h8i : ¬ (8 : Int) < (p.size : Int) := by omega
  have H8 := hide h8
  clear h8
  go_wp2_with fail
  refine (rCheck_any s _ hs).mono ?_
  rintro e w0 ⟨rfl, hb0⟩
  have HB0 := hide hb0
  clear hb0
  by_cases hzc : chkE s ≠ 0
  · have HU := hide (up_bad (id := id) (unhide H8) hzc)
    have hz2 : (chkE s != 0) = true := by simpa using hzc
    clear hzc
    go_wp2
    exact bodyPost_ret (v := .tuple #[.slice none 0 0, .string { data := #[] }, .int .i64 (chkE s), .int .i64 (chkP s)]) (by simp [results, Try.results22, go_sem]) rfl ⟨upOut_err (unhide HU), unhide HB0⟩
  have hzc0 : chkE s = 0 := by omega
  have hz2 : (chkE s != 0) = false := by rw [hzc0]; rfl
  obtain ⟨M, hpd⟩ : ∃ M, pDb s 4 0 = .inr M := by
    cases hp : pDb s 4 0 with
    | inl p => rw [(chk_text (unhide H320) hp).1] at hzc0; omega
    | inr M => exact ⟨M, rfl⟩
  have HZC := hide hzc0
  have HPD := hide hpd
  clear hzc hzc0 hpd
  go_wp2_with fail
  refine (rFind_any s id M _ (by have := unhide H320; omega) (unhide HPD)).mono ?_
  rintro e w1 ⟨hout, hb1⟩
  have HB1 := hide ((unhide HB0).trans (hb1.mono (unhide HB0).size))
  clear hb1
  rcases hout with ⟨hix, rfl⟩ | ⟨k, sv, hk, hix, rfl, hsv⟩
  · have HU := hide (up_id (unhide H8) (unhide HZC) (unhide HPD) hix)
    clear hix
    go_wp2
    exact bodyPost_ret (v := .tuple #[.slice none 0 0, .string { data := #[] }, .int .i64 7, .int .i64 0]) (by simp [results, Try.results22, go_sem]) rfl ⟨upOut_err (unhide HU), (unhide HB1).alloc (unhide HB1).size _⟩
  obtain ⟨m, hm⟩ : ∃ m, m = mAt M k := ⟨_, rfl⟩
  have HPK := hide (up_msg (unhide H8) (unhide HZC) (unhide HPD) hix)
  have HG := hide (good_of (unhide HPD) hk).2
  have HWI := hide (sound_within (unhide HZC) (unhide HPD) hk)
  rw [← hm] at hsv HPK HG HWI
  rw [← hm]
  obtain ⟨va, vcap, rfl⟩ := ownsRow_form hsv
  have HSV := hide hsv
  clear hix hsv hm hk
  have HBB : Hid (Below (w1.heap.size + 1) (w1.alloc (.cells #[.string m.id, .int .i64 m.sz, .slice va m.sigs.length vcap, .int .i64 m.pl] 45)) (w1.alloc (.cells #[.string m.id, .int .i64 m.sz, .slice va m.sigs.length vcap, .int .i64 m.pl] 45))) := hide (Below.refl _ _)
  by_cases hln : (p.size : Int) = m.sz
  · have hl2 : ((p.size : Int) != m.sz) = false := by rw [hln]; simp
    have HU := hide (show up s id p = _ by rw [unhide HPK, upMsg, if_neg (by simpa using hln)])
    have HW2 : Hid (Within m.sigs p.size) := hide (by rw [hln]; exact unhide HWI)
    clear hln
    go_wp2_with fail
    refine (rUnpacked_any m.id p m.sz m.pl _ m.sigs _ (ownsRow_below (unhide HSV) (box_below (unhide HBB))) (unhide HG) (by have := unhide H8; omega) (unhide HW2)).mono ?_
    rintro e w3 ⟨u, rfl, hu, hb3⟩
    have HB3 := hide (box_next (unhide HBB) hb3)
    have HUU := hide hu
    obtain ⟨ua, ucap, rfl, hu1, hu2, hu3⟩ := hu
    clear hb3 hu1 hu2 hu3
    go_wp2
    exact bodyPost_ret (v := .tuple #[.slice ua (valsL m.sigs (payTo p p.size) (choiceN m.sigs (payTo p p.size)) m.sigs.length).length ucap, .string (strOfNums (signsL m.sigs (choiceN m.sigs (payTo p p.size)) m.sigs.length)), .int .i64 0, .int .i64 0]) (by simp [results, Try.results22, go_sem]) rfl ⟨upOut_ok (unhide HU) (unhide HUU), (unhide HB1).trans ((box_below (unhide HB3)).mono (unhide HB1).size)⟩
  · have HU := hide (show up s id p = _ by rw [unhide HPK, upMsg, if_pos hln])
    have hl2 : ((p.size : Int) != m.sz) = true := by rw [bne_iff_ne]; exact hln
    clear hln
    go_wp2
    exact bodyPost_ret (v := .tuple #[.slice none 0 0, .string { data := #[] }, .int .i64 10, .int .i64 0]) (by simp [results, Try.results22, go_sem]) rfl ⟨upOut_err (unhide HU), (unhide HB1).alloc (unhide HB1).size _⟩

end Go.Proofs.Ytljodhcfimklkaa

namespace Go.Proofs.Ytljodhcfimklkaa
open Go.RowKit

theorem place_inj {s : Sg} {i j : Int} (h : place s.st s.ln s.od i = place s.st s.ln s.od j) : i = j := by
  unfold place at h
  split at h
  · omega
  · have h2 : mir (mir (mir s.st + s.ln - 1 - i)) = mir (mir (mir s.st + s.ln - 1 - j)) := by rw [h]
    rw [mir_mir, mir_mir] at h2
    omega

theorem active_meet {a b c : Int} (ha : activeB a c = true) (hb : activeB b c = true) : meetB a b = true := by
  unfold activeB at ha hb
  unfold meetB
  cases h1 : isDigB a with
  | false => simp
  | true =>
    cases h2 : isDigB b with
    | false => simp
    | true =>
      rw [h1] at ha
      rw [h2] at hb
      simp at ha hb
      have : a = b := by omega
      simp [this]

theorem errOf_share {L E : List Sg} {s : Sg} {sz : Int} (h : errOf L E s sz = 0) : anyIx (fun k => shareB (sgAt E k) s && meetB (sgAt E k).rl s.rl) E.length = false := by
  cases e : anyIx (fun k => shareB (sgAt E k) s && meetB (sgAt E k).rl s.rl) E.length with
  | false => rfl
  | true =>
    exfalso
    rw [errOf, e] at h
    split at h
    · omega
    · split at h
      · omega
      · split at h
        · omega
        · split at h
          · omega
          · simp at h

/-- Nothing is wrong with any of these signals. -/
def Sound (L : List Sg) (sz : Int) : Prop := ∀ j, j < L.length → errAt L sz j = 0

theorem apart {L : List Sg} {sz c : Int} (h : Sound L sz) {i k : Nat} (hk : k < L.length) (hik : i < k) (ai : activeB (sgAt L i).rl c = true) (ak : activeB (sgAt L k).rl c = true)
    (a b : Nat) (ha : a < (sgAt L i).ln.toNat) (hb : b < (sgAt L k).ln.toNat) : place (sgAt L i).st (sgAt L i).ln (sgAt L i).od a ≠ place (sgAt L k).st (sgAt L k).ln (sgAt L k).od b := by
  intro he
  have h1 := errOf_share (h k hk)
  have h2 : anyIx (fun j => shareB (sgAt (L.take k) j) (sgAt L k) && meetB (sgAt (L.take k) j).rl (sgAt L k).rl) (L.take k).length = true := by
    rw [anyIx_true]
    refine ⟨i, by simp; omega, ?_⟩
    rw [sgAt_take L k i hik, active_meet ai ak, Bool.and_true, shareB, anyIx_true]
    refine ⟨a, ha, ?_⟩
    rw [anyIx_true]
    exact ⟨b, hb, by simpa using he⟩
  rw [h2] at h1
  cases h1

theorem lay_test (st ln od v : Int) (n q : Nat) : (layTo st ln od v n).testBit q = true ↔ ∃ j, j < n ∧ bitv v j = 1 ∧ (place st ln od j).toNat = q := by
  induction n with
  | zero => simp [layTo]
  | succ n ih =>
    rw [layTo, Nat.testBit_or, Bool.or_eq_true, ih]
    have hb := bitv_lt v n
    constructor
    · rintro (⟨j, hj, h1, h2⟩ | h)
      · exact ⟨j, by omega, h1, h2⟩
      · obtain e | e : bitv v n = 0 ∨ bitv v n = 1 := by omega
        · rw [e] at h; simp at h
        · rw [e, Nat.one_mul, Nat.testBit_two_pow] at h
          exact ⟨n, by omega, e, by simpa using h⟩
    · rintro ⟨j, hj, h1, h2⟩
      by_cases e : j = n
      · subst e
        right
        rw [h1, Nat.one_mul, Nat.testBit_two_pow]
        simpa using h2
      · exact .inl ⟨j, by omega, h1, h2⟩

theorem bits_test (L : List Sg) (Z : List Int) (c : Int) (n q : Nat) : (bitsTo L Z c n).testBit q = true ↔ ∃ k, k < n ∧ activeB (sgAt L k).rl c = true ∧ ∃ j, j < (sgAt L k).ln.toNat ∧ bitv (zAt Z k) j = 1 ∧ (place (sgAt L k).st (sgAt L k).ln (sgAt L k).od j).toNat = q := by
  induction n with
  | zero => simp [bitsTo]
  | succ n ih =>
    rw [bitsTo]
    constructor
    · intro h
      split at h
      · rename_i ha
        rw [Nat.testBit_or, Bool.or_eq_true, ih, lay_test] at h
        rcases h with ⟨k, hk, h⟩ | h
        · exact ⟨k, by omega, h⟩
        · exact ⟨n, by omega, ha, h⟩
      · obtain ⟨k, hk, h⟩ := ih.1 h
        exact ⟨k, by omega, h⟩
    · rintro ⟨k, hk, ha, h⟩
      by_cases e : k = n
      · subst e
        rw [if_pos ha, Nat.testBit_or, Bool.or_eq_true, lay_test]
        exact .inr h
      · have := ih.2 ⟨k, by omega, ha, h⟩
        split
        · rw [Nat.testBit_or, this]; rfl
        · exact this

/-- Each bit of an active signal is laid by it alone. -/
theorem bit_own {L : List Sg} {Z : List Int} {sz c : Int} (hs : Sound L sz) (hg : Good L) {k : Nat} (hk : k < L.length) (ak : activeB (sgAt L k).rl c = true) {j : Nat} (hj : j < (sgAt L k).ln.toNat) :
    bitN (bitsTo L Z c L.length) (place (sgAt L k).st (sgAt L k).ln (sgAt L k).od j).toNat = bitv (zAt Z k) j := by
  have hb := bitv_lt (zAt Z k) j
  rw [bitN_test]
  cases ht : (bitsTo L Z c L.length).testBit (place (sgAt L k).st (sgAt L k).ln (sgAt L k).od j).toNat with
  | true =>
    rw [bits_test] at ht
    obtain ⟨i, hi, ai, a, ha, hv, hp⟩ := ht
    have oki := (hg.2 i hi).1
    have okk := (hg.2 k hk).1
    have p1 := place_lo (sgAt L i).st (sgAt L i).ln (sgAt L i).od a oki.st0 (by omega) (by omega)
    have p2 := place_lo (sgAt L k).st (sgAt L k).ln (sgAt L k).od j okk.st0 (by omega) (by omega)
    have hp' : place (sgAt L i).st (sgAt L i).ln (sgAt L i).od a = place (sgAt L k).st (sgAt L k).ln (sgAt L k).od j := by omega
    rcases Nat.lt_trichotomy i k with hlt | rfl | hlt
    · exact absurd hp' (apart hs hk hlt ai ak a j ha hj)
    · have := place_inj hp'
      have : a = j := by omega
      subst this
      rw [hv]; rfl
    · exact absurd hp'.symm (apart hs hi hlt ak ai j a hj ha)
  | false =>
    have : ¬ bitv (zAt Z k) j = 1 := by
      intro h1
      have h2 := (bits_test L Z c L.length (place (sgAt L k).st (sgAt L k).ln (sgAt L k).od j).toNat).2 ⟨k, hk, ak, j, hj, h1, rfl⟩
      rw [ht] at h2
      cases h2
    simp only [Bool.false_eq_true, if_false]
    omega

theorem heldTo_mod (st ln od : Int) (N x k : Nat) (h : ∀ j, j < k → bitN N (place st ln od j).toNat = x / 2 ^ j % 2) : heldTo st ln od N k = x % 2 ^ k := by
  induction k with
  | zero => simp [heldTo, Nat.mod_one]
  | succ k ih =>
    rw [heldTo, ih (fun j hj => h j (by omega)), h k (by omega), Nat.mod_pow_succ, Nat.mul_comm]

theorem heldV_own {st ln od kd v : Int} {N : Nat} (h0 : 1 ≤ ln) (h1 : ln ≤ 32) (hf : fitsB kd ln v = true) (h : ∀ j, j < ln.toNat → bitN N (place st ln od j).toNat = bitv v j) : heldV st ln od kd N = v := by
  have hb := fitsB_bounds hf
  have hn := fun (j : Nat) (hj : (j : Int) < ln) => natural_bit ln v j h0 h1 hj hb.1 hb.2
  obtain ⟨n0, n1, _⟩ := hn 0 (by omega)
  have hpw := pow_half ln h0
  have hpn : ((2 ^ ln.toNat : Nat) : Int) = 2 * half ln := by rw [← hpw]; simp
  have e : (heldTo st ln od N ln.toNat : Int) = natural ln v := by
    have h2 := heldTo_mod st ln od N (natural ln v).toNat ln.toNat (fun j hj => by
      rw [h j hj]
      have h3 := (hn j (by omega)).2.2
      have e3 : natural ln v = ((natural ln v).toNat : Int) := by omega
      rw [e3] at h3
      have e4 : (((natural ln v).toNat : Nat) : Int) / 2 ^ j % 2 = (((natural ln v).toNat / 2 ^ j % 2 : Nat) : Int) := by simp
      rw [e4] at h3
      omega)
    rw [h2, Nat.mod_eq_of_lt (by omega)]
    omega
  unfold heldV
  rw [e]
  unfold fitsB at hf
  have hp := half_pos ln
  by_cases hv : v < 0
  · have en : natural ln v = v + 2 * half ln := by rw [natural, if_pos hv]
    rw [en]
    split at hf
    · rename_i hk
      simp at hf
      rw [if_pos ⟨hk, by omega⟩]; omega
    · simp at hf; omega
  · have en : natural ln v = v := by rw [natural, if_neg hv]
    rw [en]
    split at hf
    · simp at hf
      rw [if_neg (fun hx => by have := hx.2; omega)]
    · rename_i hk
      rw [if_neg (fun hx => hk hx.1)]

/-- What the payload's text says as a number again. -/
theorem pay_back (B n : Nat) (q : Nat) (hq : q < 8 * n) : bitN (payTo (payB B n) (payB B n).size) q = bitN B q := by
  have hsz : (payB B n).size = n := by rw [payB, strOfNums_size, bytesL_len]
  have hq8 : q / 8 < n := by omega
  rw [hsz, payTo_bit _ _ _ hq8]
  have hb : (bt (payB B n) (q / 8)).toNat = byteOf B (q / 8) := by
    have hl : q / 8 < (payB B n).size := by omega
    rw [← bt_of hl, Int.toNat_natCast]
    have : (payB B n)[q / 8] = UInt8.ofNat ((byteOf B (q / 8) : Int)).toNat := by
      simp [payB, strOfNums, bytesL, ByteArray.getElem_eq_getElem_data]
    rw [this, Int.toNat_natCast, UInt8.toNat_ofNat', Nat.mod_eq_of_lt (byteOf_lt B _)]
  rw [hb]
  have e : byteOf B (q / 8) / 2 ^ (q % 8) % 2 = bitN (byteOf B (q / 8)) (q % 8) := rfl
  rw [e, bitN_test, bitN_test, byteOf_bit, show 8 * (q / 8) + q % 8 = q by omega]
  have : q % 8 < 8 := by omega
  simp [this]

/-- P6, a signal: what is held of what was laid. -/
theorem held_back {L : List Sg} {Z : List Int} {sz c : Int} (hs : Sound L sz) (hg : Good L) (hw : Within L sz) (h0 : 0 ≤ sz) {k : Nat} (hk : k < L.length) (ak : activeB (sgAt L k).rl c = true)
    (hf : fitsB (sgAt L k).kd (sgAt L k).ln (zAt Z k) = true) : held (sgAt L k) (payTo (payB (bitsTo L Z c L.length) sz.toNat) (payB (bitsTo L Z c L.length) sz.toNat).size) = zAt Z k := by
  have ok := (hg.2 k hk).1
  refine heldV_own ok.ln0 ok.ln1 hf (fun j hj => ?_)
  have p1 := place_lo (sgAt L k).st (sgAt L k).ln (sgAt L k).od j ok.st0 (by omega) (by omega)
  have p2 := hw k hk j (by omega)
  rw [pay_back _ _ _ (by omega)]
  exact bit_own hs hg hk ak hj

theorem mux_active {L : List Sg} {x : Nat} (h : (sgAt L x).rl = 77) (c : Int) : activeB (sgAt L x).rl c = true := by
  rw [h]; rfl

theorem choice_back {L : List Sg} {Z : List Int} {sz : Int} (hs : Sound L sz) (hg : Good L) (hw : Within L sz) (h0 : 0 ≤ sz) (hu : firstUn L Z (choiceOf L Z) < 0) :
    choiceN L (payTo (payB (bitsTo L Z (choiceOf L Z) L.length) sz.toNat) (payB (bitsTo L Z (choiceOf L Z) L.length) sz.toNat).size) = choiceOf L Z := by
  rcases mux_range L with hmx | ⟨x, hx, hmx, hr⟩
  · rw [choiceN, choiceOf, hmx]; rfl
  · have ax := mux_active hr (choiceOf L Z)
    have e : choiceOf L Z = zAt Z x := by rw [choiceOf, hmx, if_pos (by omega), Int.toNat_natCast]
    have h2 := held_back hs hg hw h0 hx ax (firstUn_none hu x hx ax)
    rw [choiceN, hmx, if_pos (by omega), Int.toNat_natCast, h2, e]

/-- The values of the active signals, 0 for the others. -/
def backAt (L : List Sg) (Z : List Int) (k : Nat) : Int := if activeB (sgAt L k).rl (choiceOf L Z) then zAt Z k else 0

theorem vals_back {L : List Sg} {Z : List Int} {sz : Int} (hs : Sound L sz) (hg : Good L) (hw : Within L sz) (h0 : 0 ≤ sz) (hu : firstUn L Z (choiceOf L Z) < 0) {k : Nat} (hk : k < L.length) :
    zAt (valsL L (payTo (payB (bitsTo L Z (choiceOf L Z) L.length) sz.toNat) (payB (bitsTo L Z (choiceOf L Z) L.length) sz.toNat).size) (choiceOf L Z) L.length) k = backAt L Z k := by
  rw [zAt, valsL, List.getD_eq_getElem?_getD, List.getElem?_map, List.getElem?_range hk]
  simp only [Option.map_some, Option.getD_some, valN, backAt]
  split
  · rename_i ak
    exact held_back hs hg hw h0 hk ak (firstUn_none hu k hk ak)
  · rfl

end Go.Proofs.Ytljodhcfimklkaa

namespace Go.Proofs.Ytljodhcfimklkaa
open Go.RowKit

/-- An instruction. -/
structure Ins where
  op : Int
  r : Int
  b : Int
  k : Int
  n : Int

def insAt (s : ByteArray) (i : Nat) : Ins := ⟨bt s (5 * i), bt s (5 * i + 1), bt s (5 * i + 2), bt s (5 * i + 3), bt s (5 * i + 4)⟩

/-- Its numbers are bytes. -/
structure Ins.Byt (x : Ins) : Prop where
  op0 : 0 ≤ x.op
  op1 : x.op ≤ 255
  r0 : 0 ≤ x.r
  r1 : x.r ≤ 255
  b0 : 0 ≤ x.b
  b1 : x.b ≤ 255
  k0 : 0 ≤ x.k
  k1 : x.k ≤ 255
  n0 : 0 ≤ x.n
  n1 : x.n ≤ 255
theorem insAt_byt (s : ByteArray) (i : Nat) : (insAt s i).Byt := ⟨bt_lo _ _, bt_hi _ _, bt_lo _ _, bt_hi _ _, bt_lo _ _, bt_hi _ _, bt_lo _ _, bt_hi _ _, bt_lo _ _, bt_hi _ _⟩

/-- P7: does it hold, with so many others behind it? -/
def knownB (x : Ins) (left : Int) : Bool :=
  if 8 ≤ x.r then false else if x.op ≠ 65 ∧ x.n < 1 then false else
  if x.op = 71 ∨ x.op = 80 then decide (x.b ≤ 63 ∧ x.b % 8 + x.n ≤ 8 ∧ x.k + x.n ≤ 32)
  else if x.op = 88 then decide (x.n ≤ 32)
  else if x.op = 82 then decide (x.n ≤ 32 ∧ x.k ≤ 1)
  else if x.op = 74 then decide (x.n ≤ left)
  else decide (x.op = 65)

theorem known_mono {x : Ins} {l m : Int} (h : knownB x l = true) (hlm : l ≤ m) : knownB x m = true := by
  unfold knownB at h ⊢
  split at h
  · cases h
  · rename_i h1
    rw [if_neg h1]
    split at h
    · cases h
    · rename_i h2
      rw [if_neg h2]
      split at h
      · rename_i h3; rw [if_pos h3]; exact h
      · rename_i h3
        rw [if_neg h3]
        split at h
        · rename_i h4; rw [if_pos h4]; exact h
        · rename_i h4
          rw [if_neg h4]
          split at h
          · rename_i h5; rw [if_pos h5]; exact h
          · rename_i h5
            rw [if_neg h5]
            split at h
            · rename_i h6; rw [if_pos h6]; simp at h ⊢; omega
            · rename_i h6; rw [if_neg h6]; exact h

theorem known_all {x : Ins} {l : Int} (h : knownB x l = true) : x.r ≤ 7 ∧ (x.op = 65 ∨ 1 ≤ x.n) ∧ ((x.op = 71 ∨ x.op = 80) ∧ x.b ≤ 63 ∧ x.b % 8 + x.n ≤ 8 ∧ x.k + x.n ≤ 32 ∨ x.op = 88 ∧ x.n ≤ 32 ∨ x.op = 82 ∧ x.n ≤ 32 ∧ x.k ≤ 1 ∨ x.op = 74 ∧ x.n ≤ l ∨ x.op = 65) := by
  unfold knownB at h
  split at h
  · cases h
  · split at h
    · cases h
    · split at h
      · simp only [decide_eq_true_eq] at h; exact ⟨by omega, by omega, by omega⟩
      · split at h
        · simp only [decide_eq_true_eq] at h; exact ⟨by omega, by omega, by omega⟩
        · split at h
          · simp only [decide_eq_true_eq] at h; exact ⟨by omega, by omega, by omega⟩
          · split at h
            · simp only [decide_eq_true_eq] at h; exact ⟨by omega, by omega, by omega⟩
            · simp only [decide_eq_true_eq] at h; exact ⟨by omega, by omega, by omega⟩
theorem known_of {x : Ins} {l : Int} (h : x.r ≤ 7 ∧ (x.op = 65 ∨ 1 ≤ x.n) ∧ ((x.op = 71 ∨ x.op = 80) ∧ x.b ≤ 63 ∧ x.b % 8 + x.n ≤ 8 ∧ x.k + x.n ≤ 32 ∨ x.op = 88 ∧ x.n ≤ 32 ∨ x.op = 82 ∧ x.n ≤ 32 ∧ x.k ≤ 1 ∨ x.op = 74 ∧ x.n ≤ l ∨ x.op = 65)) : knownB x l = true := by
  obtain ⟨h1, h2, h3⟩ := h
  unfold knownB
  rw [if_neg (by omega), if_neg (by omega)]
  rcases h3 with ⟨h, h3⟩ | ⟨h, h3⟩ | ⟨h, h3⟩ | ⟨h, h3⟩ | h
  · rw [if_pos h]; simpa using h3
  · rw [if_neg (by omega), if_pos h]; simpa using h3
  · rw [if_neg (by omega), if_neg (by omega), if_pos h]; simpa using h3
  · rw [if_neg (by omega), if_neg (by omega), if_neg (by omega), if_pos h]; simpa using h3
  · rw [if_neg (by omega), if_neg (by omega), if_neg (by omega), if_neg (by omega)]; simpa using h
theorem known_r {x : Ins} {l : Int} (h : knownB x l = true) : x.r ≤ 7 := (known_all h).1
theorem known_move {x : Ins} {l : Int} (h : knownB x l = true) (ho : x.op = 71 ∨ x.op = 80) : 1 ≤ x.n ∧ x.b ≤ 63 ∧ x.b % 8 + x.n ≤ 8 ∧ x.k + x.n ≤ 32 := by
  have := known_all h; omega
theorem known_x {x : Ins} {l : Int} (h : knownB x l = true) (ho : x.op = 88) : 1 ≤ x.n ∧ x.n ≤ 32 := by
  have := known_all h; omega
theorem known_range {x : Ins} {l : Int} (h : knownB x l = true) (ho : x.op = 82) : 1 ≤ x.n ∧ x.n ≤ 32 ∧ x.k ≤ 1 := by
  have := known_all h; omega
theorem known_jump {x : Ins} {l : Int} (h : knownB x l = true) (ho : x.op = 74) : 1 ≤ x.n ∧ x.n ≤ l := by
  have := known_all h; omega
theorem known_op {x : Ins} {l : Int} (h : knownB x l = true) : x.op = 71 ∨ x.op = 80 ∨ x.op = 88 ∨ x.op = 82 ∨ x.op = 74 ∨ x.op = 65 := by
  have := known_all h; omega

/-- Bit q becomes c. -/
def setb (N q : Nat) (c : Bool) : Nat := if N.testBit q = c then N else N ^^^ 2 ^ q
theorem setb_test (N q : Nat) (c : Bool) (i : Nat) : (setb N q c).testBit i = if i = q then c else N.testBit i := by
  unfold setb
  split
  · rename_i h; split
    · rename_i e; subst e; exact h
    · rfl
  · rename_i h
    rw [Nat.testBit_xor, Nat.testBit_two_pow]
    split
    · rename_i e; subst e
      cases c <;> cases hb : N.testBit i <;> simp_all
    · rename_i e
      have : ¬ q = i := fun h => e h.symm
      simp [this]
theorem setb_lt {N q n : Nat} (c : Bool) (h : N < 2 ^ n) (hq : q < n) : setb N q c < 2 ^ n := by
  unfold setb
  split
  · exact h
  · exact Nat.xor_lt_two_pow h (Nat.pow_lt_pow_right (by omega) hq)
theorem setb_add {x q : Nat} (h : x < 2 ^ q) (c : Bool) : setb x q c = x + c.toNat * 2 ^ q := by
  have hx : x.testBit q = false := Nat.testBit_lt_two_pow h
  cases c with
  | false => simp [setb, hx]
  | true =>
    rw [Bool.toNat_true, Nat.one_mul]
    have e : x + 2 ^ q = 2 ^ q ||| x := by
      have := Nat.two_pow_add_eq_or_of_lt h 1
      rw [Nat.mul_one] at this
      omega
    rw [e]
    apply Nat.eq_of_testBit_eq
    intro i
    rw [setb_test, Nat.testBit_or, Nat.testBit_two_pow]
    split
    · rename_i e; subst e; simp
    · rename_i e
      have : ¬ q = i := fun h => e h.symm
      simp [this]

/-- For j below n: bit k + j of x is laid into bit b + j of N. -/
def putTo (N x b k : Nat) : Nat → Nat
  | 0 => N
  | j + 1 => setb (putTo N x b k j) (b + j) (x.testBit (k + j))
theorem putTo_test (N x b k n q : Nat) : (putTo N x b k n).testBit q = if b ≤ q ∧ q < b + n then x.testBit (k + (q - b)) else N.testBit q := by
  induction n with
  | zero => rw [putTo, if_neg (by omega)]
  | succ n ih =>
    rw [putTo, setb_test, ih]
    by_cases e : q = b + n
    · rw [if_pos e, if_pos (by omega), e, Nat.add_sub_cancel_left]
    · rw [if_neg e]
      by_cases h : b ≤ q ∧ q < b + n
      · rw [if_pos h, if_pos (by omega)]
      · rw [if_neg h, if_neg (by omega)]
theorem putTo_lt {N m : Nat} (x b k n : Nat) (h : N < 2 ^ m) (hb : b + n ≤ m) : putTo N x b k n < 2 ^ m := by
  induction n with
  | zero => exact h
  | succ n ih => rw [putTo]; exact setb_lt _ (ih (by omega)) (by omega)

/-- What a register is modulo 2 to the 32. -/
def low (v : Int) : Nat := (v % 4294967296).toNat
theorem low_lt (v : Int) : low v < 4294967296 := by unfold low; omega

/-- What a run works on. -/
structure St where
  reg : Nat → Int
  mark : Nat → Bool
  N : Nat

def upd {α : Type} (f : Nat → α) (r : Nat) (v : α) : Nat → α := fun j => if j = r then v else f j

/-- What an instruction does, and how many behind it are left out; none: the run ends. -/
def act (x : Ins) (s : St) : Option (St × Nat) :=
  if x.op = 71 then some ({ s with reg := upd s.reg x.r.toNat (putTo (low (s.reg x.r.toNat)) s.N x.k.toNat x.b.toNat x.n.toNat : Nat) }, 0)
  else if x.op = 80 then some ({ s with N := putTo s.N (low (s.reg x.r.toNat)) x.b.toNat x.k.toNat x.n.toNat }, 0)
  else if x.op = 88 then some ({ s with reg := upd s.reg x.r.toNat (extV (s.reg x.r.toNat) x.n) }, 0)
  else if x.op = 82 then (if fitsB (if x.k = 1 then 115 else 117) x.n (s.reg x.r.toNat) then some (s, 0) else none)
  else if x.op = 74 then some (s, if s.reg x.r.toNat = x.b then 0 else x.n.toNat)
  else some ({ s with mark := upd s.mark x.r.toNat true }, 0)

/-- P8. -/
def mrun : Nat → List Ins → St → St × Int × Int
  | 0, _, s => (s, 0, 0)
  | _ + 1, [], s => (s, 0, 0)
  | f + 1, x :: l, s => match act x s with
    | none => (s, 9, x.r)
    | some (s', d) => mrun f (l.drop d) s'
theorem mrun_fuel : ∀ (f : Nat) (l : List Ins) (s : St), l.length ≤ f → mrun f l s = mrun l.length l s := by
  intro f
  induction f using Nat.strongRecOn with
  | ind f ih =>
    intro l s h
    cases l with
    | nil => cases f <;> simp [mrun]
    | cons x l =>
      obtain ⟨f, rfl⟩ : ∃ g, f = g + 1 := ⟨f - 1, by simp at h; omega⟩
      simp only [List.length_cons] at h
      rw [mrun, List.length_cons, mrun]
      cases act x s with
      | none => rfl
      | some y =>
        obtain ⟨s', d⟩ := y
        simp only
        have hd : (l.drop d).length ≤ l.length := by simp
        by_cases e : l.length = f
        · rw [e]
        · rw [ih f (by omega) _ _ (by omega), ← ih l.length (by omega) _ _ hd]
def runL (l : List Ins) (s : St) : St × Int × Int := mrun l.length l s
theorem runL_nil (s : St) : runL [] s = (s, 0, 0) := rfl
theorem runL_cons (x : Ins) (l : List Ins) (s : St) : runL (x :: l) s = match act x s with
    | none => (s, 9, x.r)
    | some (s', d) => runL (l.drop d) s' := by
  rw [runL, List.length_cons, mrun]
  cases act x s with
  | none => rfl
  | some y =>
    obtain ⟨s', d⟩ := y
    simp only
    exact mrun_fuel _ _ _ (by simp)

/-- The code of a row of instructions. -/
def Ins.bytes (x : Ins) : List Int := [x.op, x.r, x.b, x.k, x.n]
def codeB (l : List Ins) : ByteArray := strOfNums (l.flatMap Ins.bytes)

end Go.Proofs.Ytljodhcfimklkaa

namespace Go.Proofs.Ytljodhcfimklkaa
open Go.RowKit

theorem test_toNat (N q : Nat) : (N.testBit q).toNat = bitN N q := by
  rw [bitN_test]; cases N.testBit q <;> rfl

/-- Bits i on, m of them, of x, laid at the places of a signal. -/
def laySet (st ln od : Int) (N x i : Nat) : Nat → Nat
  | 0 => N
  | m + 1 => setb (laySet st ln od N x i m) (place st ln od ((i + m : Nat) : Int)).toNat (x.testBit (i + m))

theorem laySet_add (st ln od : Int) (N x i n : Nat) : laySet st ln od (laySet st ln od N x 0 i) x i n = laySet st ln od N x 0 (i + n) := by
  induction n with
  | zero => rfl
  | succ n ih => rw [laySet, ih, ← Nat.add_assoc, laySet, Nat.zero_add]

theorem putTo_lay {st ln od : Int} {N x b i n : Nat} (hp : ∀ j, j < n → (place st ln od ((i + j : Nat) : Int)).toNat = b + j) : putTo N x b i n = laySet st ln od N x i n := by
  induction n with
  | zero => rfl
  | succ n ih => rw [putTo, laySet, ih (fun j hj => hp j (by omega)), hp n (by omega)]

theorem putTo_held {st ln od : Int} {N b i n : Nat} (hp : ∀ j, j < n → (place st ln od ((i + j : Nat) : Int)).toNat = b + j) : putTo (heldTo st ln od N i) N i b n = heldTo st ln od N (i + n) := by
  induction n with
  | zero => rfl
  | succ n ih => rw [putTo, ih (fun j hj => hp j (by omega)), setb_add (heldTo_lt _ _ _ _ _), ← hp n (by omega), test_toNat, ← Nat.add_assoc, heldTo]

theorem place_next {st ln od i : Int} (h : place st ln od i % 8 ≠ 7) : place st ln od (i + 1) = place st ln od i + 1 := by
  unfold place at h ⊢
  split
  · omega
  · rename_i e
    rw [if_neg e] at h
    unfold mir at h ⊢; omega
theorem place_run {st ln od i : Int} (j : Nat) (h : place st ln od i % 8 + j ≤ 7) : place st ln od (i + j) = place st ln od i + j := by
  induction j with
  | zero => simp
  | succ j ih =>
    have := ih (by omega)
    rw [show i + ((j + 1 : Nat) : Int) = (i + j) + 1 by omega, place_next (by omega)]
    omega

/-- A piece of a signal: its place, its first bit, its length. -/
structure Pc where
  p : Int
  i : Int
  n : Int

def pcLen (st ln od i : Int) : Int := if ln - i < 8 - place st ln od i % 8 then ln - i else 8 - place st ln od i % 8
def pcs (st ln od : Int) : Nat → Int → List Pc
  | 0, _ => []
  | f + 1, i => if i < ln then ⟨place st ln od i, i, pcLen st ln od i⟩ :: pcs st ln od f (i + pcLen st ln od i) else []
theorem pcLen_bounds {st ln od i : Int} (h : i < ln) : 1 ≤ pcLen st ln od i ∧ pcLen st ln od i ≤ ln - i ∧ place st ln od i % 8 + pcLen st ln od i ≤ 8 := by
  unfold pcLen; split <;> omega
theorem pcLen_run {st ln od i : Int} (h : i < ln) (j : Nat) (hj : (j : Int) < pcLen st ln od i) : place st ln od (i + j) = place st ln od i + j := by
  have := pcLen_bounds (st := st) (od := od) h
  exact place_run j (by omega)
theorem pcs_end {st ln od i : Int} (f : Nat) (h : ¬ i < ln) : pcs st ln od f i = [] := by
  cases f with
  | zero => rfl
  | succ f => rw [pcs, if_neg h]

def Pc.ins (op r : Int) (p : Pc) : Ins := ⟨op, r, p.p, p.i, p.n⟩
def movesL (op r st ln od : Int) : List Ins := (pcs st ln od ln.toNat 0).map (Pc.ins op r)

theorem act_put {r b k n : Int} (S : St) : act ⟨80, r, b, k, n⟩ S = some ({ S with N := putTo S.N (low (S.reg r.toNat)) b.toNat k.toNat n.toNat }, 0) := by
  simp [act]
theorem act_get {r b k n : Int} (S : St) : act ⟨71, r, b, k, n⟩ S = some ({ S with reg := upd S.reg r.toNat (putTo (low (S.reg r.toNat)) S.N k.toNat b.toNat n.toNat : Nat) }, 0) := by
  simp [act]
theorem act_x {r b k n : Int} (S : St) : act ⟨88, r, b, k, n⟩ S = some ({ S with reg := upd S.reg r.toNat (extV (S.reg r.toNat) n) }, 0) := by
  simp [act]
theorem act_range {r b k n : Int} (S : St) : act ⟨82, r, b, k, n⟩ S = if fitsB (if k = 1 then 115 else 117) n (S.reg r.toNat) then some (S, 0) else none := by
  simp [act]
theorem act_jump {r b k n : Int} (S : St) : act ⟨74, r, b, k, n⟩ S = some (S, if S.reg r.toNat = b then 0 else n.toNat) := by
  simp [act]
theorem act_mark {r b k n : Int} (S : St) : act ⟨65, r, b, k, n⟩ S = some ({ S with mark := upd S.mark r.toNat true }, 0) := by
  simp [act]

theorem run_puts {st ln od : Int} (h0 : 0 ≤ st) (r : Nat) (x : Nat) (N0 : Nat) (rest : List Ins) : ∀ (f : Nat) (i : Nat) (S : St), (i : Int) ≤ ln → ln - i ≤ f → low (S.reg r) = x → S.N = laySet st ln od N0 x 0 i →
    runL ((pcs st ln od f i).map (Pc.ins 80 r) ++ rest) S = runL rest { S with N := laySet st ln od N0 x 0 ln.toNat } := by
  intro f
  induction f with
  | zero =>
    intro i S h1 h2 _ hN
    have : ln.toNat = i := by omega
    rw [pcs, this, ← hN]; rfl
  | succ f ih =>
    intro i S h1 h2 hx hN
    by_cases hlt : (i : Int) < ln
    · have hb := pcLen_bounds (st := st) (od := od) hlt
      have hp0 := place_lo st ln od i h0 (by omega) hlt
      rw [pcs, if_pos hlt, List.map_cons, List.cons_append, runL_cons, Pc.ins, act_put]
      simp only [List.drop_zero, Int.toNat_natCast]
      have e : (i : Int) + pcLen st ln od i = ((i + (pcLen st ln od i).toNat : Nat) : Int) := by omega
      rw [e]
      refine (ih _ { S with N := putTo S.N (low (S.reg r)) (place st ln od i).toNat i (pcLen st ln od i).toNat } (by omega) (by omega) hx ?_).trans rfl
      simp only
      rw [hx, hN, putTo_lay, laySet_add]
      intro j hj
      have := pcLen_run (st := st) (od := od) hlt j (by omega)
      rw [show ((i + j : Nat) : Int) = (i : Int) + j by omega, this]; omega
    · have : ln.toNat = i := by omega
      rw [pcs_end _ hlt, this, ← hN]; rfl

theorem upd_upd {α : Type} (f : Nat → α) (r : Nat) (a b : α) : upd (upd f r a) r b = upd f r b := by
  funext j; simp only [upd]; split <;> rfl
theorem upd_at {α : Type} (f : Nat → α) (r : Nat) (a : α) : upd f r a r = a := by simp [upd]
theorem upd_same {α : Type} (f : Nat → α) (r : Nat) (a : α) (h : f r = a) : upd f r a = f := by
  funext j; simp only [upd]; split
  · rename_i e; subst e; exact h.symm
  · rfl

theorem low_held (st ln od : Int) (N i : Nat) (h : i ≤ 32) : low (heldTo st ln od N i : Int) = heldTo st ln od N i := by
  have h1 := heldTo_lt st ln od N i
  have h2 : 2 ^ i ≤ 2 ^ 32 := Nat.pow_le_pow_right (by omega) h
  have e : (2 : Nat) ^ 32 = 4294967296 := rfl
  unfold low; omega

theorem run_gets {st ln od : Int} (h0 : 0 ≤ st) (h32 : ln ≤ 32) (r : Nat) (rest : List Ins) (S : St) : ∀ (f : Nat) (i : Nat), (i : Int) ≤ ln → ln - i ≤ f →
    runL ((pcs st ln od f i).map (Pc.ins 71 r) ++ rest) { S with reg := upd S.reg r (heldTo st ln od S.N i : Nat) } = runL rest { S with reg := upd S.reg r (heldTo st ln od S.N ln.toNat : Nat) } := by
  intro f
  induction f with
  | zero =>
    intro i h1 h2
    have : ln.toNat = i := by omega
    rw [pcs, this]; rfl
  | succ f ih =>
    intro i h1 h2
    by_cases hlt : (i : Int) < ln
    · have hb := pcLen_bounds (st := st) (od := od) hlt
      have hp0 := place_lo st ln od i h0 (by omega) hlt
      rw [pcs, if_pos hlt, List.map_cons, List.cons_append, runL_cons, Pc.ins, act_get]
      simp only [List.drop_zero, Int.toNat_natCast, upd_at, upd_upd]
      have e : (i : Int) + pcLen st ln od i = ((i + (pcLen st ln od i).toNat : Nat) : Int) := by omega
      rw [low_held _ _ _ _ _ (by omega), putTo_held, e, ih _ (by omega) (by omega)]
      intro j hj
      have := pcLen_run (st := st) (od := od) hlt j (by omega)
      rw [show ((i + j : Nat) : Int) = (i : Int) + j by omega, this]; omega
    · have : ln.toNat = i := by omega
      rw [pcs_end _ hlt, this]; rfl

/-- The instructions for one signal, and for a message. -/
def sgnK (kd : Int) : Int := if kd = 115 then 1 else 0
def pSteps (s : Sg) (r : Int) : List Ins := ⟨82, r, 0, sgnK s.kd, s.ln⟩ :: movesL 80 r s.st s.ln s.od
def xStep (s : Sg) (r : Int) : List Ins := if s.kd = 115 then [⟨88, r, 0, 0, s.ln⟩] else []
def uSteps (s : Sg) (r : Int) : List Ins := movesL 71 r s.st s.ln s.od ++ xStep s r ++ [⟨65, r, 0, 0, 0⟩]
def ifAct (s : Sg) (mux : Int) (l : List Ins) : List Ins := if isDigB s.rl then ⟨74, mux, s.rl - 48, 0, l.length⟩ :: l else l

theorem sgnK_kd {s : Sg} (ok : s.Ok) : (if sgnK s.kd = 1 then (115 : Int) else 117) = s.kd := by
  unfold sgnK
  rcases ok.kd with h | h <;> rw [h] <;> rfl

theorem run_pSteps {s : Sg} (ok : s.Ok) (r : Nat) (S : St) (rest : List Ins) : runL (pSteps s r ++ rest) S =
    if fitsB s.kd s.ln (S.reg r) then runL rest { S with N := laySet s.st s.ln s.od S.N (low (S.reg r)) 0 s.ln.toNat } else (S, 9, r) := by
  rw [pSteps, List.cons_append, runL_cons, act_range, sgnK_kd ok, Int.toNat_natCast]
  cases fitsB s.kd s.ln (S.reg r) with
  | false => rfl
  | true =>
    have h0 := ok.ln0
    have := run_puts (st := s.st) (ln := s.ln) (od := s.od) ok.st0 r (low (S.reg r)) S.N rest s.ln.toNat 0 S (by omega) (by omega) rfl rfl
    simpa [movesL] using this

theorem ext_held {s : Sg} (ok : s.Ok) (hk : s.kd = 115) (N : Nat) : extV (heldTo s.st s.ln s.od N s.ln.toNat : Int) s.ln = held s N := by
  have h1 := heldTo_lt s.st s.ln s.od N s.ln.toNat
  have hpw := pow_half s.ln ok.ln0
  have hpn : ((2 ^ s.ln.toNat : Nat) : Int) = 2 * half s.ln := by rw [← hpw]; simp
  rw [extV, held, heldV, Int.emod_eq_of_lt (by omega) (by omega)]
  by_cases h : half s.ln ≤ (heldTo s.st s.ln s.od N s.ln.toNat : Int)
  · rw [if_pos h, if_pos ⟨hk, h⟩]
  · rw [if_neg h, if_neg (fun hx => h hx.2)]

theorem run_uSteps {s : Sg} (ok : s.Ok) (r : Nat) (S : St) (hr : S.reg r = 0) (rest : List Ins) : runL (uSteps s r ++ rest) S =
    runL rest { S with reg := upd S.reg r (held s S.N), mark := upd S.mark r true } := by
  have h0 := ok.ln0
  have h := run_gets (st := s.st) (ln := s.ln) (od := s.od) ok.st0 ok.ln1 r (xStep s r ++ (⟨65, r, 0, 0, 0⟩ :: rest)) S s.ln.toNat 0 (by omega) (by omega)
  have e : { S with reg := upd S.reg r (heldTo s.st s.ln s.od S.N 0 : Nat) } = S := by
    rw [upd_same _ _ _ (by simpa [heldTo] using hr)]
  rw [e] at h
  have e2 : uSteps s r ++ rest = List.map (Pc.ins 71 r) (pcs s.st s.ln s.od s.ln.toNat 0) ++ (xStep s r ++ (⟨65, r, 0, 0, 0⟩ :: rest)) := by simp [uSteps, movesL]
  rw [e2]
  simp only [Int.natCast_zero] at h
  rw [h]
  rcases ok.kd with hk | hk
  · rw [xStep, if_neg (by omega), List.nil_append, runL_cons, act_mark]
    simp only [List.drop_zero, Int.toNat_natCast]
    have : held s S.N = (heldTo s.st s.ln s.od S.N s.ln.toNat : Int) := by rw [held, heldV, if_neg (fun hx => by omega)]
    rw [this]
  · rw [xStep, if_pos hk, List.cons_append, List.nil_append, runL_cons, act_x]
    simp only [List.drop_zero, Int.toNat_natCast, upd_at, upd_upd]
    rw [runL_cons, act_mark, ext_held ok hk]
    simp only [List.drop_zero, Int.toNat_natCast]

theorem run_ifAct {s : Sg} {mux c : Int} {l rest : List Ins} {S : St} (hm : isDigB s.rl = true → S.reg mux.toNat = c) : runL (ifAct s mux l ++ rest) S = if activeB s.rl c then runL (l ++ rest) S else runL rest S := by
  unfold ifAct
  cases hd : isDigB s.rl with
  | false => rw [activeB, hd]; rfl
  | true =>
    simp only [if_true]
    rw [List.cons_append, runL_cons, act_jump, hm hd, activeB, hd]
    simp only [Int.toNat_natCast]
    by_cases e : c = s.rl - 48
    · rw [if_pos e]; simp [e]
    · rw [if_neg e, List.drop_left]
      have : ¬ s.rl - 48 = c := fun h => e h.symm
      simp [this]

theorem laySet_test {s : Sg} (ok : s.Ok) (N x : Nat) (m : Nat) (hm : (m : Int) ≤ s.ln) (q : Nat) : (laySet s.st s.ln s.od N x 0 m).testBit q = true ↔
    (∃ j, j < m ∧ (place s.st s.ln s.od j).toNat = q ∧ x.testBit j = true) ∨ ((∀ j : Nat, j < m → (place s.st s.ln s.od j).toNat ≠ q) ∧ N.testBit q = true) := by
  induction m with
  | zero => simp [laySet]
  | succ m ih =>
    rw [laySet, setb_test, Nat.zero_add]
    by_cases e : q = (place s.st s.ln s.od m).toNat
    · rw [if_pos e]
      constructor
      · intro h; exact .inl ⟨m, by omega, e.symm, h⟩
      · rintro (⟨j, hj, hp, hx⟩ | ⟨h, _⟩)
        · have p1 := place_lo s.st s.ln s.od j ok.st0 (by omega) (by omega)
          have p2 := place_lo s.st s.ln s.od m ok.st0 (by omega) (by omega)
          have := place_inj (s := s) (i := j) (j := m) (by omega)
          have : j = m := by omega
          subst this; exact hx
        · exact absurd e.symm (h m (by omega))
    · rw [if_neg e, ih (by omega)]
      constructor
      · rintro (⟨j, hj, hp, hx⟩ | ⟨h, hN⟩)
        · exact .inl ⟨j, by omega, hp, hx⟩
        · refine .inr ⟨fun j hj => ?_, hN⟩
          by_cases ej : j = m
          · subst ej; exact fun h => e h.symm
          · exact h j (by omega)
      · rintro (⟨j, hj, hp, hx⟩ | ⟨h, hN⟩)
        · refine .inl ⟨j, ?_, hp, hx⟩
          have : j ≠ m := fun ej => by subst ej; exact e hp.symm
          omega
        · exact .inr ⟨fun j hj => h j (by omega), hN⟩

theorem low_bit (v : Int) (j : Nat) (hj : j < 32) : (low v).testBit j = true ↔ bitv v j = 1 := by
  have e1 : bitv v j = bitN (low v) j := by
    unfold bitv bitN low
    have a : v % 18446744073709551616 = (v % 4294967296) + 4294967296 * ((v % 18446744073709551616) / 4294967296) := by omega
    rw [a]
    have b : (4294967296 : Int) = 2 ^ (j + 1) * 2 ^ (31 - j) := by rw [← Int.pow_add, show j + 1 + (31 - j) = 32 by omega]; rfl
    have c : (4294967296 : Int) * ((v % 18446744073709551616) / 4294967296) = 2 ^ (j + 1) * (2 ^ (31 - j) * ((v % 18446744073709551616) / 4294967296)) := by rw [← Int.mul_assoc, ← b]
    rw [c, div_shift]
    generalize 2 ^ (31 - j) * ((v % 18446744073709551616) / 4294967296) = y
    have d : v % 4294967296 = ((v % 4294967296).toNat : Int) := by omega
    have e : (((v % 4294967296).toNat : Nat) : Int) / 2 ^ j = (((v % 4294967296).toNat / 2 ^ j : Nat) : Int) := by simp
    rw [d, e, Int.toNat_natCast]
    generalize (v % 4294967296).toNat / 2 ^ j = z
    omega
  rw [e1, bitN_test]
  cases (low v).testBit j <;> simp

theorem laySet_or {s : Sg} (ok : s.Ok) (N : Nat) (v : Int) (hN : ∀ j : Nat, (j : Int) < s.ln → N.testBit (place s.st s.ln s.od j).toNat = false) :
    laySet s.st s.ln s.od N (low v) 0 s.ln.toNat = N ||| layTo s.st s.ln s.od v s.ln.toNat := by
  have h0 := ok.ln0
  have h1 := ok.ln1
  apply Nat.eq_of_testBit_eq
  intro q
  rw [Bool.eq_iff_iff, laySet_test ok _ _ _ (by omega), Nat.testBit_or, Bool.or_eq_true, lay_test]
  constructor
  · rintro (⟨j, hj, hp, hx⟩ | ⟨_, h⟩)
    · exact .inr ⟨j, hj, (low_bit v j (by omega)).1 hx, hp⟩
    · exact .inl h
  · rintro (h | ⟨j, hj, hx, hp⟩)
    · refine .inr ⟨fun j hj e => ?_, h⟩
      have := hN j (by omega)
      rw [e, h] at this; cases this
    · exact .inl ⟨j, hj, hp, (low_bit v j (by omega)).2 hx⟩

end Go.Proofs.Ytljodhcfimklkaa

namespace Go.Proofs.Ytljodhcfimklkaa
open Go.RowKit

def sigP (L : List Sg) (k : Nat) : List Ins := ifAct (sgAt L k) (muxOf L) (pSteps (sgAt L k) k)
def packTo (L : List Sg) : Nat → List Ins
  | 0 => []
  | k + 1 => packTo L k ++ sigP L k
def headU (L : List Sg) : List Ins := if 0 ≤ muxOf L then uSteps (sgAt L (muxOf L).toNat) (muxOf L) else []
def sigU (L : List Sg) (k : Nat) : List Ins := if (k : Int) = muxOf L then [] else ifAct (sgAt L k) (muxOf L) (uSteps (sgAt L k) k)
def unpackTo (L : List Sg) : Nat → List Ins
  | 0 => headU L
  | k + 1 => unpackTo L k ++ sigU L k

theorem errOf_dig {L E : List Sg} {s : Sg} {sz : Int} (h : errOf L E s sz = 0) (hd : isDigB s.rl = true) : 0 ≤ muxOf L := by
  rw [errOf] at h
  split at h
  · omega
  · split at h
    · omega
    · split at h
      · omega
      · rename_i h3
        have : ¬ muxOf L < 0 := fun hx => h3 ⟨hd, hx⟩
        omega
theorem sound_mux {L : List Sg} {sz : Int} (hs : Sound L sz) {k : Nat} (hk : k < L.length) (hd : isDigB (sgAt L k).rl = true) : 0 ≤ muxOf L := errOf_dig (hs k hk) hd

theorem bits_apart {L : List Sg} {Z : List Int} {sz c : Int} (hs : Sound L sz) (hg : Good L) {k : Nat} (hk : k < L.length) (ak : activeB (sgAt L k).rl c = true) (j : Nat) (hj : (j : Int) < (sgAt L k).ln) :
    (bitsTo L Z c k).testBit (place (sgAt L k).st (sgAt L k).ln (sgAt L k).od j).toNat = false := by
  cases ht : (bitsTo L Z c k).testBit (place (sgAt L k).st (sgAt L k).ln (sgAt L k).od j).toNat with
  | false => rfl
  | true =>
    exfalso
    rw [bits_test] at ht
    obtain ⟨i, hi, ai, a, ha, hv, hp⟩ := ht
    have oki := (hg.2 i (by omega)).1
    have okk := (hg.2 k hk).1
    have p1 := place_lo (sgAt L i).st (sgAt L i).ln (sgAt L i).od a oki.st0 (by omega) (by omega)
    have p2 := place_lo (sgAt L k).st (sgAt L k).ln (sgAt L k).od j okk.st0 (by omega) (by omega)
    exact absurd (by omega) (apart hs hk hi ai ak a j ha (by omega))

theorem run_packTo {L : List Sg} {Z : List Int} {sz : Int} (hs : Sound L sz) (hg : Good L) (S0 : St) (hr : S0.reg = zAt Z) (h0 : S0.N = 0) : ∀ (k : Nat) (rest : List Ins), k ≤ L.length → (∀ j, j < k → unfit L Z (choiceOf L Z) j = false) →
    runL (packTo L k ++ rest) S0 = runL rest { S0 with N := bitsTo L Z (choiceOf L Z) k } := by
  intro k
  induction k with
  | zero => intro rest _ _; rw [packTo, bitsTo, ← h0]; rfl
  | succ k ih =>
    intro rest hk hno
    rw [packTo, List.append_assoc, ih _ (by omega) (fun j hj => hno j (by omega)), sigP]
    have hu := hno k (by omega)
    have ok := (hg.2 k (by omega)).1
    rw [run_ifAct (c := choiceOf L Z) (fun hd => by
      have := sound_mux hs (by omega) hd
      simp only
      rw [hr, choiceOf, if_pos this])]
    cases ha : activeB (sgAt L k).rl (choiceOf L Z) with
    | false => rw [bits_stay ha]; rfl
    | true =>
      rw [unfit, ha] at hu
      have hf : fitsB (sgAt L k).kd (sgAt L k).ln (zAt Z k) = true := by simpa using hu
      simp only [if_true]
      rw [run_pSteps ok]
      simp only [hr, hf, if_true]
      rw [laySet_or ok _ _ (fun j hj => bits_apart hs hg (by omega) ha j hj), bitsTo, if_pos ha]
      rfl

theorem packTo_split (L : List Sg) (u : Nat) : ∀ n, u < n → ∃ tl, packTo L n = packTo L u ++ (sigP L u ++ tl) := by
  intro n
  induction n with
  | zero => intro h; omega
  | succ n ih =>
    intro h
    by_cases e : u = n
    · subst e; exact ⟨[], by simp [packTo]⟩
    · obtain ⟨tl, ht⟩ := ih (by omega)
      exact ⟨tl ++ sigP L n, by rw [packTo, ht]; simp⟩

/-- What the first code does. -/
theorem run_pack {L : List Sg} {Z : List Int} {sz : Int} (hs : Sound L sz) (hg : Good L) (S0 : St) (hr : S0.reg = zAt Z) (h0 : S0.N = 0) :
    (0 ≤ firstUn L Z (choiceOf L Z) → (runL (packTo L L.length) S0).2 = (9, firstUn L Z (choiceOf L Z))) ∧
    (firstUn L Z (choiceOf L Z) < 0 → runL (packTo L L.length) S0 = ({ S0 with N := bitsTo L Z (choiceOf L Z) L.length }, 0, 0)) := by
  rcases findIx_cases (unfit L Z (choiceOf L Z)) L.length with ⟨h, hno⟩ | ⟨u, hu, h, h2⟩
  · constructor
    · intro h3; rw [firstUn, h] at h3; omega
    · intro _
      have := run_packTo hs hg S0 hr h0 L.length [] (Nat.le_refl _) hno
      rw [List.append_nil, runL_nil] at this
      exact this
  · constructor
    · intro _
      have hno : ∀ j, j < u → unfit L Z (choiceOf L Z) j = false := by
        intro j hj
        have hix : firstIx (unfit L Z (choiceOf L Z)) L.length = u := by
          unfold findIx at h
          split at h <;> omega
        exact firstIx_no _ L.length j (by omega)
      obtain ⟨tl, ht⟩ := packTo_split L u L.length hu
      rw [ht, run_packTo hs hg S0 hr h0 u _ (by omega) hno, sigP, firstUn, h]
      have ok := (hg.2 u hu).1
      rw [run_ifAct (c := choiceOf L Z) (fun hd => by
        have := sound_mux hs hu hd
        simp only
        rw [hr, choiceOf, if_pos this])]
      rw [unfit, Bool.and_eq_true] at h2
      rw [if_pos h2.1, run_pSteps ok]
      have hf : fitsB (sgAt L u).kd (sgAt L u).ln (zAt Z u) = false := by simpa using h2.2
      simp only [hr, hf, Bool.false_eq_true, if_false]
    · intro h3; rw [firstUn, h] at h3; omega

/-- Has the code of the first k signals (and the multiplexor's, ahead of them) read this one? -/
def onU (L : List Sg) (N k j : Nat) : Bool := decide (j < L.length) && (decide (j < k) || decide ((j : Int) = muxOf L)) && activeB (sgAt L j).rl (choiceN L N)
def stU (L : List Sg) (N k : Nat) : St := ⟨fun j => if onU L N k j then held (sgAt L j) N else 0, onU L N k, N⟩

theorem run_unpackTo {L : List Sg} {sz : Int} (hs : Sound L sz) (hg : Good L) (N : Nat) : ∀ (k : Nat) (rest : List Ins), k ≤ L.length →
    runL (unpackTo L k ++ rest) ⟨fun _ => 0, fun _ => false, N⟩ = runL rest (stU L N k) := by
  intro k
  induction k with
  | zero =>
    intro rest _
    rw [unpackTo, headU]
    rcases mux_range L with hmx | ⟨x, hx, hmx, hrl⟩
    · rw [if_neg (by omega)]
      have : stU L N 0 = ⟨fun _ => 0, fun _ => false, N⟩ := by
        have h1 : ∀ j, onU L N 0 j = false := by
          intro j
          have : ¬ (j : Int) = muxOf L := by omega
          simp [onU, this]
        rw [stU]
        simp only [h1, Bool.false_eq_true, if_false]
        congr 1
        funext j; exact h1 j
      rw [this]; rfl
    · rw [if_pos (by omega), hmx, Int.toNat_natCast, run_uSteps (hg.2 x hx).1 x _ rfl]
      have h1 : ∀ j, onU L N 0 j = decide (j = x) := by
        intro j
        by_cases e : j = x
        · subst e
          have := mux_active hrl (choiceN L N)
          simp [onU, hx, hmx, this]
        · have : ¬ (j : Int) = x := by omega
          simp [onU, hmx, this, e]
      have : stU L N 0 = { reg := upd (fun _ => 0) x (held (sgAt L x) N), mark := upd (fun _ => false) x true, N := N } := by
        rw [stU]
        congr 1
        · funext j
          rw [h1]
          by_cases e : j = x
          · simp [upd, e]
          · simp [upd, e]
        · funext j
          rw [h1]
          by_cases e : j = x
          · simp [upd, e]
          · simp [upd, e]
      rw [this]
  | succ k ih =>
    intro rest hk
    rw [unpackTo, List.append_assoc, ih _ (by omega), sigU]
    by_cases e : (k : Int) = muxOf L
    · rw [if_pos e, List.nil_append]
      have h1 : onU L N (k + 1) = onU L N k := by
        funext j
        by_cases ej : j = k
        · subst ej; simp [onU, e]
        · have : (j < k + 1) ↔ j < k := by omega
          simp [onU, this]
      rw [stU, stU, h1]
    · rw [if_neg e]
      have ok := (hg.2 k (by omega)).1
      have hoff : onU L N k k = false := by simp [onU, e]
      have h1 : ∀ j, j ≠ k → onU L N (k + 1) j = onU L N k j := by
        intro j hj
        have : (j < k + 1) ↔ j < k := by omega
        simp [onU, this]
      have h2 : onU L N (k + 1) k = activeB (sgAt L k).rl (choiceN L N) := by simp [onU, show k < L.length by omega]
      rw [run_ifAct (c := choiceN L N) (fun hd => by
        have hm := sound_mux hs (show k < L.length by omega) hd
        rcases mux_range L with hmx | ⟨x, hx, hmx, hrl⟩
        · omega
        · have := mux_active hrl (choiceN L N)
          simp only [stU]
          rw [hmx, Int.toNat_natCast]
          have hon : onU L N k x = true := by simp [onU, hx, hmx, this]
          rw [if_pos hon, choiceN, hmx, if_pos (by omega), Int.toNat_natCast])]
      cases ha : activeB (sgAt L k).rl (choiceN L N) with
      | false =>
        have : onU L N (k + 1) = onU L N k := by
          funext j
          by_cases ej : j = k
          · subst ej; rw [h2, ha, hoff]
          · exact h1 j ej
        simp only [Bool.false_eq_true, if_false]
        rw [stU, stU, this]
      | true =>
        simp only [if_true]
        rw [run_uSteps ok k _ (by simp [stU, hoff])]
        congr 1
        rw [stU, stU]
        simp only [St.mk.injEq, and_true]
        constructor
        · funext j
          by_cases ej : j = k
          · subst ej; rw [upd_at, h2, ha]; rfl
          · rw [h1 j ej]; simp [upd, ej]
        · funext j
          by_cases ej : j = k
          · subst ej; rw [upd_at, h2, ha]
          · rw [h1 j ej]; simp [upd, ej]

/-- What the second code does. -/
theorem run_unpack {L : List Sg} {sz : Int} (hs : Sound L sz) (hg : Good L) (N : Nat) : runL (unpackTo L L.length) ⟨fun _ => 0, fun _ => false, N⟩ = (stU L N L.length, 0, 0) := by
  have := run_unpackTo hs hg N L.length [] (Nat.le_refl _)
  rw [List.append_nil, runL_nil] at this
  exact this
theorem stU_reg (L : List Sg) (N j : Nat) : (stU L N L.length).reg j = if j < L.length then valN L N (choiceN L N) j else 0 := by
  simp only [stU, onU, valN]
  by_cases h : j < L.length
  · simp [h]
  · simp [h]
theorem stU_mark (L : List Sg) (N j : Nat) : (stU L N L.length).mark j = (decide (j < L.length) && activeB (sgAt L j).rl (choiceN L N)) := by
  simp only [stU, onU]
  by_cases h : j < L.length
  · simp [h]
  · simp [h]

end Go.Proofs.Ytljodhcfimklkaa

namespace Go.Proofs.Ytljodhcfimklkaa
open Go.RowKit

/-- Code that Verify admits. -/
def Fine (l : List Ins) : Prop := ∀ (i : Nat) (x : Ins), l[i]? = some x → x.Byt ∧ knownB x ((l.length : Int) - 1 - i) = true
/-- Instructions that hold wherever they stand. -/
def Plain (l : List Ins) : Prop := ∀ x ∈ l, x.Byt ∧ ∀ left, knownB x left = true
theorem fine_plain {l : List Ins} (h : Plain l) : Fine l := fun _ x hx => ⟨(h x (List.mem_of_getElem? hx)).1, (h x (List.mem_of_getElem? hx)).2 _⟩
theorem fine_append {a b : List Ins} (ha : Fine a) (hb : Fine b) : Fine (a ++ b) := by
  intro i x hx
  rw [List.length_append]
  by_cases h : i < a.length
  · rw [List.getElem?_append_left h] at hx
    obtain ⟨h1, h2⟩ := ha i x hx
    exact ⟨h1, known_mono h2 (by omega)⟩
  · rw [List.getElem?_append_right (by omega)] at hx
    obtain ⟨h1, h2⟩ := hb _ x hx
    exact ⟨h1, known_mono h2 (by omega)⟩
theorem fine_jump {l : List Ins} {mux b : Int} (h : Fine l) (hm0 : 0 ≤ mux) (hm7 : mux ≤ 7) (hb0 : 0 ≤ b) (hb1 : b ≤ 255) (hl1 : 1 ≤ l.length) (hl2 : l.length ≤ 255) : Fine (⟨74, mux, b, 0, l.length⟩ :: l) := by
  intro i x hx
  cases i with
  | zero =>
    simp at hx
    subst hx
    refine ⟨⟨by simp, by simp, hm0, by simp; omega, hb0, hb1, by simp, by simp, by simp, by simp; omega⟩, ?_⟩
    exact known_of ⟨hm7, .inr (by simp only; omega), .inr (.inr (.inr (.inl ⟨rfl, by simp only [List.length_cons]; omega⟩)))⟩
  | succ i =>
    simp at hx
    obtain ⟨h1, h2⟩ := h i x hx
    refine ⟨h1, known_mono h2 ?_⟩
    rw [List.length_cons]; omega

theorem pcs_all {s : Sg} (ok : s.Ok) (ft : s.Fits) : ∀ (f : Nat) (i : Int), 0 ≤ i → ∀ p ∈ pcs s.st s.ln s.od f i, 0 ≤ p.p ∧ p.p ≤ 63 ∧ 1 ≤ p.n ∧ p.p % 8 + p.n ≤ 8 ∧ 0 ≤ p.i ∧ p.i + p.n ≤ 32 := by
  intro f
  induction f with
  | zero => intro i _ p hp; simp [pcs] at hp
  | succ f ih =>
    intro i hi p hp
    rw [pcs] at hp
    split at hp
    · rename_i hlt
      have hb := pcLen_bounds (st := s.st) (od := s.od) hlt
      have h1 := place_lo s.st s.ln s.od i ok.st0 hi hlt
      have h2 := ft i hi hlt
      have h3 := ok.ln1
      rcases List.mem_cons.1 hp with rfl | hp
      · exact ⟨h1, h2, hb.1, hb.2.2, hi, by simp only; omega⟩
      · exact ih _ (by omega) p hp
    · simp at hp

theorem place_wrap {st ln od i : Int} (h : place st ln od i % 8 = 7) : place st ln od (i + 1) % 8 = 0 := by
  unfold place at h ⊢
  split
  · rename_i e; rw [if_pos e] at h; omega
  · rename_i e
    rw [if_neg e] at h
    unfold mir at h ⊢; omega

theorem pcs_len {st ln od : Int} : ∀ (f : Nat) (i : Int), ((pcs st ln od f i).length : Int) ≤ if i < ln then (ln - i + place st ln od i % 8 + 7) / 8 else 0 := by
  intro f
  induction f with
  | zero => intro i; simp only [pcs, List.length_nil]; split <;> omega
  | succ f ih =>
    intro i
    rw [pcs]
    split
    · rename_i hlt
      have hb := pcLen_bounds (st := st) (od := od) hlt
      rw [List.length_cons]
      have h1 := ih (i + pcLen st ln od i)
      split at h1
      · rename_i h2
        have e : pcLen st ln od i = 8 - place st ln od i % 8 := by unfold pcLen at h2 ⊢; split at h2 <;> omega
        have h3 := pcLen_run (st := st) (od := od) hlt (pcLen st ln od i - 1).toNat (by omega)
        have h4 : place st ln od (i + pcLen st ln od i - 1) % 8 = 7 := by
          rw [show i + pcLen st ln od i - 1 = i + ((pcLen st ln od i - 1).toNat : Int) by omega, h3]; omega
        have h5 := place_wrap h4
        rw [show i + pcLen st ln od i - 1 + 1 = i + pcLen st ln od i by omega] at h5
        omega
      · omega
    · simp

theorem pcs_five {s : Sg} (ok : s.Ok) : (pcs s.st s.ln s.od s.ln.toNat 0).length ≤ 5 ∧ 1 ≤ (pcs s.st s.ln s.od s.ln.toNat 0).length := by
  have h := pcs_len (st := s.st) (ln := s.ln) (od := s.od) s.ln.toNat 0
  have h0 := ok.ln0
  have h1 := ok.ln1
  rw [if_pos (by omega)] at h
  refine ⟨by omega, ?_⟩
  obtain ⟨n, hn⟩ : ∃ n, s.ln.toNat = n + 1 := ⟨s.ln.toNat - 1, by omega⟩
  rw [hn, pcs, if_pos (by omega)]; simp

theorem plain_moves {s : Sg} (ok : s.Ok) (ft : s.Fits) {op r : Int} (ho : op = 71 ∨ op = 80) (hr0 : 0 ≤ r) (hr7 : r ≤ 7) : Plain (movesL op r s.st s.ln s.od) := by
  intro x hx
  simp only [movesL, List.mem_map] at hx
  obtain ⟨p, hp, rfl⟩ := hx
  obtain ⟨h1, h2, h3, h4, h5, h6⟩ := pcs_all ok ft _ 0 (by omega) p hp
  refine ⟨⟨by simp only [Pc.ins]; omega, by simp only [Pc.ins]; omega, hr0, by simp only [Pc.ins]; omega, h1, by simp only [Pc.ins]; omega, h5, by simp only [Pc.ins]; omega, by simp only [Pc.ins]; omega, by simp only [Pc.ins]; omega⟩, fun left => ?_⟩
  exact known_of ⟨hr7, .inr h3, .inl ⟨ho, h2, h4, h6⟩⟩

theorem plain_pSteps {s : Sg} (ok : s.Ok) (ft : s.Fits) {r : Int} (hr0 : 0 ≤ r) (hr7 : r ≤ 7) : Plain (pSteps s r) := by
  intro x hx
  have h0 := ok.ln0
  have h1 := ok.ln1
  rcases List.mem_cons.1 hx with rfl | hx
  · have hk : sgnK s.kd = 0 ∨ sgnK s.kd = 1 := by unfold sgnK; split <;> omega
    refine ⟨⟨by simp, by simp, hr0, by simp only; omega, by simp, by simp, by simp only; omega, by simp only; omega, by simp only; omega, by simp only; omega⟩, fun left => ?_⟩
    exact known_of ⟨hr7, .inr h0, .inr (.inr (.inl ⟨rfl, h1, by simp only; omega⟩))⟩
  · exact plain_moves ok ft (.inr rfl) hr0 hr7 x hx

theorem plain_uSteps {s : Sg} (ok : s.Ok) (ft : s.Fits) {r : Int} (hr0 : 0 ≤ r) (hr7 : r ≤ 7) : Plain (uSteps s r) := by
  intro x hx
  have h0 := ok.ln0
  have h1 := ok.ln1
  simp only [uSteps, List.mem_append, List.mem_singleton] at hx
  rcases hx with (hx | hx) | rfl
  · exact plain_moves ok ft (.inl rfl) hr0 hr7 x hx
  · unfold xStep at hx
    split at hx
    · simp at hx
      subst hx
      refine ⟨⟨by simp, by simp, hr0, by simp only; omega, by simp, by simp, by simp, by simp, by simp only; omega, by simp only; omega⟩, fun left => ?_⟩
      exact known_of ⟨hr7, .inr h0, .inr (.inl ⟨rfl, h1⟩)⟩
    · simp at hx
  · refine ⟨⟨by simp, by simp, hr0, by simp only; omega, by simp, by simp, by simp, by simp, by simp, by simp⟩, fun left => ?_⟩
    exact known_of ⟨hr7, .inl rfl, .inr (.inr (.inr (.inr rfl)))⟩

theorem pSteps_len {s : Sg} (ok : s.Ok) (r : Int) : (pSteps s r).length ≤ 6 ∧ 1 ≤ (pSteps s r).length := by
  have := pcs_five ok
  simp only [pSteps, movesL, List.length_cons, List.length_map]; omega
theorem uSteps_len {s : Sg} (ok : s.Ok) (r : Int) : (uSteps s r).length ≤ 7 ∧ 1 ≤ (uSteps s r).length := by
  have := pcs_five ok
  have hx : (xStep s r).length ≤ 1 := by unfold xStep; split <;> simp
  simp only [uSteps, movesL, List.length_append, List.length_map, List.length_cons, List.length_nil]; omega

theorem mux_hi (L : List Sg) (hl : L.length ≤ 8) : muxOf L ≤ 7 := by
  rcases mux_range L with h | ⟨x, hx, h, _⟩ <;> omega
theorem fine_ifAct {L : List Sg} {sz : Int} (hs : Sound L sz) (hg : Good L) {k : Nat} (hk : k < L.length) {l : List Ins} (hl : Fine l) (h1 : 1 ≤ l.length) (h2 : l.length ≤ 255) : Fine (ifAct (sgAt L k) (muxOf L) l) := by
  unfold ifAct
  split
  · rename_i hd
    have hm := sound_mux hs hk hd
    simp [isDigB] at hd
    exact fine_jump hl hm (mux_hi L hg.1) (by omega) (by omega) h1 h2
  · exact hl
theorem ifAct_len (s : Sg) (mux : Int) (l : List Ins) : (ifAct s mux l).length ≤ l.length + 1 := by unfold ifAct; split <;> simp

theorem pack_fine {L : List Sg} {sz : Int} (hs : Sound L sz) (hg : Good L) (hf : AllFits L) : ∀ k, k ≤ L.length → Fine (packTo L k) ∧ (packTo L k).length ≤ 7 * k := by
  intro k
  induction k with
  | zero => intro _; exact ⟨fun i x hx => by simp [packTo] at hx, by simp [packTo]⟩
  | succ k ih =>
    intro hk
    obtain ⟨h1, h2⟩ := ih (by omega)
    have hl := hg.1
    have ok := (hg.2 k (by omega)).1
    have h3 := pSteps_len ok (k : Int)
    have h4 := ifAct_len (sgAt L k) (muxOf L) (pSteps (sgAt L k) k)
    rw [packTo, List.length_append, sigP]
    exact ⟨fine_append h1 (fine_ifAct hs hg (by omega) (fine_plain (plain_pSteps ok (hf k (by omega)) (by omega) (by omega))) (by omega) (by omega)), by omega⟩
theorem unpack_fine {L : List Sg} {sz : Int} (hs : Sound L sz) (hg : Good L) (hf : AllFits L) : ∀ k, k ≤ L.length → Fine (unpackTo L k) ∧ (unpackTo L k).length ≤ 8 * k + 7 := by
  intro k
  induction k with
  | zero =>
    intro _
    rw [unpackTo, headU]
    rcases mux_range L with hmx | ⟨x, hx, hmx, _⟩
    · rw [if_neg (by omega)]; exact ⟨fun i x hx => by simp at hx, by simp⟩
    · have hl := hg.1
      have ok := (hg.2 x hx).1
      have h3 := uSteps_len ok (x : Int)
      rw [if_pos (by omega), hmx, Int.toNat_natCast]
      exact ⟨fine_plain (plain_uSteps ok (hf x hx) (by omega) (by omega)), by omega⟩
  | succ k ih =>
    intro hk
    obtain ⟨h1, h2⟩ := ih (by omega)
    rw [unpackTo, List.length_append, sigU]
    split
    · rw [List.append_nil]; exact ⟨h1, by simp; omega⟩
    · have hl := hg.1
      have ok := (hg.2 k (by omega)).1
      have h3 := uSteps_len ok (k : Int)
      have h4 := ifAct_len (sgAt L k) (muxOf L) (uSteps (sgAt L k) k)
      exact ⟨fine_append h1 (fine_ifAct hs hg (by omega) (fine_plain (plain_uSteps ok (hf k (by omega)) (by omega) (by omega))) (by omega) (by omega)), by omega⟩

/-- How many moves a code has. -/
def isMove (x : Ins) : Bool := decide (x.op = 80) || decide (x.op = 71)
def shifts (l : List Ins) : Nat := l.countP isMove
theorem shifts_app (a b : List Ins) : shifts (a ++ b) = shifts a + shifts b := List.countP_append
theorem shifts_moves {op r st ln od : Int} (ho : op = 71 ∨ op = 80) : shifts (movesL op r st ln od) = (pcs st ln od ln.toNat 0).length := by
  rw [shifts, movesL, List.countP_map, List.countP_eq_length]
  intro x _
  simp only [Function.comp, Pc.ins, isMove]
  rcases ho with rfl | rfl <;> rfl
theorem shifts_ifAct (s : Sg) (mux : Int) (l : List Ins) : shifts (ifAct s mux l) = shifts l := by
  unfold ifAct; split
  · simp [shifts, isMove]
  · rfl
theorem shifts_p (s : Sg) (r : Int) : shifts (pSteps s r) = (pcs s.st s.ln s.od s.ln.toNat 0).length := by
  rw [pSteps, ← shifts_moves (op := 80) (r := r) (.inr rfl)]
  simp [shifts, isMove]
theorem shifts_u (s : Sg) (r : Int) : shifts (uSteps s r) = (pcs s.st s.ln s.od s.ln.toNat 0).length := by
  rw [uSteps, shifts_app, shifts_app, shifts_moves (.inl rfl)]
  have : shifts (xStep s r) = 0 := by unfold xStep; split <;> simp [shifts, isMove]
  rw [this]; simp [shifts, isMove]

/-- How many b below n there are with P. -/
def cntB (P : Nat → Bool) : Nat → Nat
  | 0 => 0
  | n + 1 => cntB P n + if P n then 1 else 0
theorem cntB_le {P Q : Nat → Bool} (h : ∀ b, Q b = true → P b = true) (n : Nat) : cntB Q n ≤ cntB P n := by
  induction n with
  | zero => simp [cntB]
  | succ n ih =>
    rw [cntB, cntB]
    have := h n
    cases hq : Q n with
    | false => simp; omega
    | true => rw [this hq]; simp; omega
theorem cntB_more {P Q : Nat → Bool} (h : ∀ b, Q b = true → P b = true) {B : Nat} (hP : P B = true) (hQ : Q B = false) (n : Nat) (hB : B < n) : cntB Q n + 1 ≤ cntB P n := by
  induction n with
  | zero => omega
  | succ n ih =>
    rw [cntB, cntB]
    by_cases e : B = n
    · subst e
      have := cntB_le h B
      rw [hP, hQ]; simp; omega
    · have h1 := ih (by omega)
      have := h n
      cases hq : Q n with
      | false => simp; omega
      | true => rw [this hq]; simp; omega

/-- Lies a bit of the signal, from i on, in byte b? -/
def hitF (st ln od : Int) (i : Int) (b : Nat) : Bool := anyIx (fun k => decide (i ≤ (k : Int)) && decide (place st ln od k / 8 = b)) ln.toNat
theorem byte_apart {st ln od i k : Int} (hod : od = 60 ∨ od = 62) (hk : i + pcLen st ln od i ≤ k) (hkl : k < ln) : place st ln od k / 8 ≠ place st ln od i / 8 := by
  have hb : pcLen st ln od i = 8 - place st ln od i % 8 := by
    unfold pcLen at hk ⊢
    split
    · rename_i h; rw [if_pos h] at hk; omega
    · rfl
  rw [hb] at hk
  rcases hod with rfl | rfl
  · simp only [place, if_true] at hk ⊢; omega
  · simp only [place] at hk ⊢
    rw [if_neg (by omega)] at hk
    rw [if_neg (by omega), if_neg (by omega)]
    generalize mir st = y at *
    unfold mir at *
    omega
theorem pcs_hits {s : Sg} (ok : s.Ok) {n : Nat} (hw : ∀ k : Nat, (k : Int) < s.ln → place s.st s.ln s.od k < 8 * n) : ∀ (f : Nat) (i : Int), 0 ≤ i → (pcs s.st s.ln s.od f i).length ≤ cntB (hitF s.st s.ln s.od i) n := by
  intro f
  induction f with
  | zero => intro i _; simp [pcs]
  | succ f ih =>
    intro i hi
    rw [pcs]
    split
    · rename_i hlt
      have hb := pcLen_bounds (st := s.st) (od := s.od) hlt
      have h1 := place_lo s.st s.ln s.od i ok.st0 hi hlt
      have h2 := hw i.toNat (by omega)
      rw [show ((i.toNat : Nat) : Int) = i by omega] at h2
      rw [List.length_cons]
      refine Nat.le_trans (Nat.succ_le_succ (ih (i + pcLen s.st s.ln s.od i) (by omega))) (cntB_more (B := (place s.st s.ln s.od i / 8).toNat) ?_ ?_ ?_ n (by omega))
      · intro b h
        rw [hitF, anyIx_true] at h ⊢
        obtain ⟨k, hk, h⟩ := h
        simp only [Bool.and_eq_true, decide_eq_true_eq] at h
        exact ⟨k, hk, by simp only [Bool.and_eq_true, decide_eq_true_eq]; exact ⟨by omega, h.2⟩⟩
      · rw [hitF, anyIx_true]
        refine ⟨i.toNat, by omega, ?_⟩
        simp only [Bool.and_eq_true, decide_eq_true_eq]
        rw [show ((i.toNat : Nat) : Int) = i by omega]
        exact ⟨by omega, by omega⟩
      · cases hq : hitF s.st s.ln s.od (i + pcLen s.st s.ln s.od i) (place s.st s.ln s.od i / 8).toNat with
        | false => rfl
        | true =>
          exfalso
          rw [hitF, anyIx_true] at hq
          obtain ⟨k, hk, h⟩ := hq
          simp only [Bool.and_eq_true, decide_eq_true_eq] at h
          exact byte_apart ok.od h.1 (by omega) (by omega)
    · simp

/-- Lies a bit of the signal in byte b? -/
def hitB (s : Sg) (b : Nat) : Bool := anyIx (fun k => decide (place s.st s.ln s.od k / 8 = b)) s.ln.toNat
/-- P11: how many pairs there are. -/
def pairsTo (L : List Sg) (n : Nat) : Nat → Nat
  | 0 => 0
  | k + 1 => pairsTo L n k + cntB (hitB (sgAt L k)) n
theorem pcs_pairs {L : List Sg} {sz : Int} (hg : Good L) (hw : Within L sz) (h0 : 0 ≤ sz) {k : Nat} (hk : k < L.length) : (pcs (sgAt L k).st (sgAt L k).ln (sgAt L k).od (sgAt L k).ln.toNat 0).length ≤ cntB (hitB (sgAt L k)) sz.toNat := by
  refine Nat.le_trans (pcs_hits (hg.2 k hk).1 (n := sz.toNat) (fun j hj => by have := hw k hk j hj; omega) _ 0 (by omega)) (cntB_le ?_ _)
  intro b h
  rw [hitF, anyIx_true] at h
  obtain ⟨j, hj, h⟩ := h
  simp only [Bool.and_eq_true] at h
  rw [hitB, anyIx_true]
  exact ⟨j, hj, h.2⟩
theorem pack_shifts {L : List Sg} {sz : Int} (hg : Good L) (hw : Within L sz) (h0 : 0 ≤ sz) : ∀ k, k ≤ L.length → shifts (packTo L k) ≤ pairsTo L sz.toNat k := by
  intro k
  induction k with
  | zero => intro _; simp [packTo, shifts]
  | succ k ih =>
    intro hk
    have h1 := ih (by omega)
    have h2 := pcs_pairs hg hw h0 (show k < L.length by omega)
    rw [packTo, shifts_app, sigP, shifts_ifAct, shifts_p, pairsTo]
    omega
/-- The moves of the multiplexor, if it stands behind k. -/
def muxShare (L : List Sg) (k : Nat) : Nat := if (k : Int) ≤ muxOf L then (pcs (sgAt L (muxOf L).toNat).st (sgAt L (muxOf L).toNat).ln (sgAt L (muxOf L).toNat).od (sgAt L (muxOf L).toNat).ln.toNat 0).length else 0
theorem unpack_shifts {L : List Sg} {sz : Int} (hg : Good L) (hw : Within L sz) (h0 : 0 ≤ sz) : ∀ k, k ≤ L.length → shifts (unpackTo L k) ≤ pairsTo L sz.toNat k + muxShare L k := by
  intro k
  induction k with
  | zero =>
    intro _
    rw [unpackTo, headU, pairsTo, muxShare]
    simp only [Int.natCast_zero]
    split
    · rw [shifts_u]; omega
    · simp [shifts]
  | succ k ih =>
    intro hk
    have h1 := ih (by omega)
    have h2 := pcs_pairs hg hw h0 (show k < L.length by omega)
    rw [unpackTo, shifts_app, sigU, pairsTo]
    by_cases e : (k : Int) = muxOf L
    · rw [if_pos e]
      have h3 : muxShare L k = (pcs (sgAt L k).st (sgAt L k).ln (sgAt L k).od (sgAt L k).ln.toNat 0).length := by
        rw [muxShare, if_pos (by omega), ← e, Int.toNat_natCast]
      have h4 : shifts ([] : List Ins) = 0 := rfl
      rw [h4]; omega
    · rw [if_neg e, shifts_ifAct, shifts_u]
      have h3 : muxShare L (k + 1) = muxShare L k := by
        unfold muxShare
        by_cases h : (k : Int) ≤ muxOf L
        · rw [if_pos h, if_pos (by omega)]
        · rw [if_neg h, if_neg (by omega)]
      omega
theorem unpack_few {L : List Sg} {sz : Int} (hg : Good L) (hw : Within L sz) (h0 : 0 ≤ sz) : shifts (unpackTo L L.length) ≤ pairsTo L sz.toNat L.length := by
  have h := unpack_shifts hg hw h0 L.length (Nat.le_refl _)
  have : muxShare L L.length = 0 := by
    unfold muxShare
    rcases mux_range L with hmx | ⟨x, hx, hmx, _⟩
    · rw [if_neg (by omega)]
    · rw [if_neg (by omega)]
  omega

end Go.Proofs.Ytljodhcfimklkaa

namespace Go.Proofs.Ytljodhcfimklkaa
open Go.RowKit

theorem nums_app (a b : List Int) : strOfNums (a ++ b) = strOfNums a ++ strOfNums b := by
  apply ByteArray.ext
  simp [strOfNums, ByteArray.data_append]
theorem codeB_app (a b : List Ins) : codeB (a ++ b) = codeB a ++ codeB b := by rw [codeB, List.flatMap_append, nums_app]; rfl
theorem codeB_nil : codeB [] = { data := #[] } := rfl
theorem codeB_len (l : List Ins) : (l.flatMap Ins.bytes).length = 5 * l.length := by
  induction l with
  | nil => rfl
  | cons x l ih => rw [List.flatMap_cons, List.length_append, ih, List.length_cons]; simp [Ins.bytes]; omega
theorem codeB_size (l : List Ins) : (codeB l).size = 5 * l.length := by rw [codeB, strOfNums_size, codeB_len]

theorem nums_bt (xs : List Int) (k : Nat) (x : Int) (h : xs[k]? = some x) (h0 : 0 ≤ x) (h1 : x ≤ 255) : bt (strOfNums xs) k = x := by
  have hk : k < xs.length := by
    rcases Nat.lt_or_ge k xs.length with h' | h'
    · exact h'
    · rw [List.getElem?_eq_none h'] at h; cases h
  have hk2 : k < (strOfNums xs).size := by rw [strOfNums_size]; exact hk
  rw [← bt_of hk2]
  have hx : xs[k] = x := by rw [List.getElem?_eq_getElem hk] at h; exact Option.some.inj h
  have : (strOfNums xs)[k] = UInt8.ofNat x.toNat := by simp [strOfNums, ByteArray.getElem_eq_getElem_data, hx]
  rw [this, UInt8.toNat_ofNat', Nat.mod_eq_of_lt (by omega)]
  omega
theorem bytes_get (l : List Ins) (i j : Nat) (x : Ins) (hi : l[i]? = some x) (hj : j < 5) : (l.flatMap Ins.bytes)[5 * i + j]? = x.bytes[j]? := by
  induction l generalizing i with
  | nil => simp at hi
  | cons a l ih =>
    rw [List.flatMap_cons]
    cases i with
    | zero =>
      simp at hi
      subst hi
      rw [List.getElem?_append_left (by simp [Ins.bytes]; omega)]; simp
    | succ i =>
      simp at hi
      rw [List.getElem?_append_right (by simp [Ins.bytes]; omega)]
      have : 5 * (i + 1) + j - a.bytes.length = 5 * i + j := by simp [Ins.bytes]; omega
      rw [this, ih i hi]
theorem insAt_code {l : List Ins} {i : Nat} {x : Ins} (h : l[i]? = some x) (hb : x.Byt) : insAt (codeB l) i = x := by
  have h0 := nums_bt (l.flatMap Ins.bytes) (5 * i) x.op (by have := bytes_get l i 0 x h (by omega); simpa [Ins.bytes] using this) hb.op0 hb.op1
  have h1 := nums_bt (l.flatMap Ins.bytes) (5 * i + 1) x.r (by have := bytes_get l i 1 x h (by omega); simpa [Ins.bytes] using this) hb.r0 hb.r1
  have h2 := nums_bt (l.flatMap Ins.bytes) (5 * i + 2) x.b (by have := bytes_get l i 2 x h (by omega); simpa [Ins.bytes] using this) hb.b0 hb.b1
  have h3 := nums_bt (l.flatMap Ins.bytes) (5 * i + 3) x.k (by have := bytes_get l i 3 x h (by omega); simpa [Ins.bytes] using this) hb.k0 hb.k1
  have h4 := nums_bt (l.flatMap Ins.bytes) (5 * i + 4) x.n (by have := bytes_get l i 4 x h (by omega); simpa [Ins.bytes] using this) hb.n0 hb.n1
  rw [insAt, codeB, h0, h1, h2, h3, h4]

set_option maxHeartbeats 1000000 in
theorem instructionText_any (op r b k n : Int) (w : World) (hb : (⟨op, r, b, k, n⟩ : Ins).Byt) :
    Calls Try.prog 97 #[.agg #[.int .u8 op, .int .i64 r, .int .i64 b, .int .i64 k, .int .i64 n]] w fun e w' => e = .returned (.string (codeB [⟨op, r, b, k, n⟩])) ∧ Below w.heap.size w w' := by
  obtain ⟨o0, o1, r0, r1, b0, b1, k0, k1, n0, n1⟩ := hb
  simp only at o0 o1 r0 r1 b0 b1 k0 k1 n0 n1
  have wr : IntKind.u8.wrap r = r := by rw [IntKind.wrap_u8]; omega
  have wb : IntKind.u8.wrap b = b := by rw [IntKind.wrap_u8]; omega
  have wk : IntKind.u8.wrap k = k := by rw [IntKind.wrap_u8]; omega
  have wn : IntKind.u8.wrap n = n := by rw [IntKind.wrap_u8]; omega
  have hconv := conv_row (w := (w.alloc (.cells #[.int .u8 op, .int .i64 r, .int .i64 b, .int .i64 k, .int .i64 n] 128)).alloc (.cells #[.int .u8 op, .int .u8 r, .int .u8 b, .int .u8 k, .int .u8 n] 5)) (B := 0) (v := .slice (some ⟨w.heap.size + 1, 0, none⟩) 5 5) (n := 5) (xs := [op, r, b, k, n])
    ⟨rfl, .inr ⟨_, 5, _, rfl, Nat.zero_le _, new_two _ _ _, Nat.le_refl _, by simp [maxLen], rfl, rfl⟩⟩
  go_enter Try.func97, Try.ntmps97
  go_wp2
  go_ret
  exact ⟨rfl, ((Below.refl _ _).alloc (Nat.le_refl _) _).alloc (by simp) _⟩

/-- The cells of a piece; what the slice value v reads as. -/
def Pc.cells (p : Pc) : List Value := [.int .i64 p.p, .int .i64 p.i, .int .i64 p.n]
def PcsAt (w : World) (v : Value) (L : List Pc) : Prop := w.ownsRow 0 156 3 v L.length (L.flatMap Pc.cells)
theorem Try.infoPc : (Try.prog.info? 156).map (fun i => (i.zero, i.size, i.bytes)) = some (some (.agg #[.int .i64 0, .int .i64 0, .int .i64 0]), 3, 24) := by kernel_rfl

set_option maxRecDepth 100000 in
set_option maxHeartbeats 2000000 in
theorem pieces_any (a0 a1 st ln od kd rl : Int) (w : World) (h0 : 0 ≤ st) (h1 : st ≤ 63) (h2 : 1 ≤ ln) (h3 : ln ≤ 32) (h4 : od = 60 ∨ od = 62) (hp : ∀ i, 0 ≤ i → i < ln → place st ln od i ≤ 63) :
    Calls Try.prog 107 #[.agg #[.int .i64 a0, .int .u8 a1, .int .i64 st, .int .i64 ln, .int .u8 od, .int .u8 kd, .int .u8 rl]] w
      fun e w' => ∃ v, e = .returned v ∧ PcsAt w' v (pcs st ln od ln.toNat 0) ∧ Below w.heap.size w w' := by
  obtain ⟨i0, hinf, hz0, hz1, hz2⟩ := info_parts Try.infoPc
  have HINF := hide hinf
  have HZ0 := hide hz0
  have HZ1 := hide hz1
  have HZ2 := hide hz2
  have H4 := hide h4
  have HP := hide hp
  clear hinf hz0 hz1 hz2 h4 hp
  go_enter Try.func107, Try.ntmps107
  go_wp2
  go_loopw [3, 4] (fun v i wr => ∃ (k : Nat) (f : Nat) (L : List Pc), (k : Int) ≤ ln ∧ i = .int .i64 k ∧ ln - k ≤ f ∧ L.length ≤ k ∧ L ++ pcs st ln od f k = pcs st ln od ln.toNat 0 ∧ wr.ownsRow (w.heap.size + 1) 156 3 v L.length (L.flatMap Pc.cells) ∧
    Below (w.heap.size + 1) (w.alloc (.cells #[.int .i64 a0, .int .u8 a1, .int .i64 st, .int .i64 ln, .int .u8 od, .int .u8 kd, .int .u8 rl] 121)) wr) (fun _ i _ => (ln - intOf i).toNat)
  case atStart => exact ⟨0, ln.toNat, [], by omega, rfl, by omega, by simp, rfl, ⟨rfl, .inr ⟨_, 0, #[], rfl, by omega, new_two _ _ _, by simp, by simp [maxLen], by simp, by simp⟩⟩, (Below.refl _ _).alloc (by simp) _⟩
  case round =>
    obtain ⟨k, f, L, hk, rfl, hf, hLk, hL, hown, hb⟩ := hrel
    obtain ⟨sa, cap, rfl⟩ := ownsRow_form hown
    have HOWN := hide hown
    have HB := hide hb
    have HL := hide hL
    have hc := box_cell hb
    clear hown hb hL
    by_cases hlt : (k : Int) < ln
    · obtain ⟨f, rfl⟩ : ∃ g, f = g + 1 := ⟨f - 1, by omega⟩
      have hp0 := place_lo st ln od k h0 (by omega) hlt
      have hp1 := unhide HP k (by omega) hlt
      have hpb := pcLen_bounds (st := st) (od := od) hlt
      have HPL := hide (show pcLen st ln od k = if ln - k < 8 - place st ln od k % 8 then ln - k else 8 - place st ln od k % 8 from rfl)
      rw [pcs, if_pos hlt] at HL
      go_wp2_with fail
      refine (bitPlace_any a0 a1 st ln od kd rl k wr h0 h1 h2 h3 (unhide H4) (by omega) hlt).mono ?_
      rintro e w1 ⟨rfl, hb1⟩
      have HB1 := hide (box_next (unhide HB) hb1)
      have HOWN1 := hide (ownsRow_bel (unhide HOWN) hb1)
      have hc1 := box_cell (unhide HB1)
      clear hc hb1
      generalize pcLen st ln od k = m at *
      generalize place st ln od k = q at *
      obtain ⟨mn, rfl⟩ : ∃ mn : Nat, m = mn := ⟨m.toNat, by omega⟩
      have htm : (q : Int).tmod 8 = q % 8 := Int.tmod_eq_emod_of_nonneg hp0
      by_cases hs : ln - k < 8 - q % 8
      · have hm : (mn : Int) = ln - k := by rw [unhide HPL, if_pos hs]
        have HM := hide hm
        clear HPL hm
        go_wp2_with (at_builtin; refine wpList_append_own _ rfl _ _ 153 rfl (w.heap.size + 1) 156 i0 _ 3 24 Try.underlying153 (unhide HINF) (unhide HZ0) (unhide HZ1) (unhide HZ2) rfl (by decide) _ _ _ rfl ((unhide HOWN1).alloc _) ⟨w1.heap.size, 0, none⟩ 1 1 (Pc.cells ⟨q, k, ln - k⟩) rfl rfl ?c1 ?c2 ?c3 ?c4 ?c5 ?_)
        case c1 => exact new_cells (blk_new _ _)
        case c2 => simp [Pc.cells, Value.oneCell']
        case c3 => unfold maxLen; omega
        case c4 => omega
        case c5 => have := (unhide HB1).size; simp at this ⊢; omega
        intro v3 w3 hown3 hgrow _
        obtain ⟨a3, cap3, rfl⟩ := ownsRow_form hown3
        have HB3 := hide (Below.grown ((unhide HB1).alloc (by have := (unhide HB1).size; simp at this; omega) _) hgrow (by have := (unhide HB1).size; simp at this ⊢; omega) (fun k hk => ((unhide HOWN1).lt k hk).1))
        have HOWN3 := hide hown3
        clear hown3 hgrow hc1
        go_wp2
        go_roundw
        case rel =>
          refine ⟨k + mn, f, L ++ [⟨q, k, mn⟩], by omega, by have := unhide HM; go_num, by omega, by simp; omega, ?_, ?_, unhide HB3⟩
          · rw [← unhide HL]; simp
          · have := unhide HOWN3
            rw [← unhide HM] at this
            rw [List.length_append, List.flatMap_append]
            simpa using this
        case measure => have := unhide HM; simp [intOf]; omega
      · have hm : (mn : Int) = 8 - q % 8 := by rw [unhide HPL, if_neg hs]
        have HM := hide hm
        clear HPL hm
        go_wp2_with (at_builtin; refine wpList_append_own _ rfl _ _ 153 rfl (w.heap.size + 1) 156 i0 _ 3 24 Try.underlying153 (unhide HINF) (unhide HZ0) (unhide HZ1) (unhide HZ2) rfl (by decide) _ _ _ rfl ((unhide HOWN1).alloc _) ⟨w1.heap.size, 0, none⟩ 1 1 (Pc.cells ⟨q, k, 8 - q % 8⟩) rfl rfl ?c1 ?c2 ?c3 ?c4 ?c5 ?_)
        case c1 => exact new_cells (blk_new _ _)
        case c2 => simp [Pc.cells, Value.oneCell']
        case c3 => unfold maxLen; omega
        case c4 => omega
        case c5 => have := (unhide HB1).size; simp at this ⊢; omega
        intro v3 w3 hown3 hgrow _
        obtain ⟨a3, cap3, rfl⟩ := ownsRow_form hown3
        have HB3 := hide (Below.grown ((unhide HB1).alloc (by have := (unhide HB1).size; simp at this; omega) _) hgrow (by have := (unhide HB1).size; simp at this ⊢; omega) (fun k hk => ((unhide HOWN1).lt k hk).1))
        have HOWN3 := hide hown3
        clear hown3 hgrow hc1
        go_wp2
        go_roundw
        case rel =>
          refine ⟨k + mn, f, L ++ [⟨q, k, mn⟩], by omega, by have := unhide HM; go_num, by omega, by simp; omega, ?_, ?_, unhide HB3⟩
          · rw [← unhide HL]; simp
          · have := unhide HOWN3
            rw [← unhide HM] at this
            rw [List.length_append, List.flatMap_append]
            simpa using this
        case measure => have := unhide HM; simp [intOf]; omega
    · have hend := pcs_end (st := st) (ln := ln) (od := od) f hlt
      have HE := hide (show L = pcs st ln od ln.toNat 0 by rw [← unhide HL, hend, List.append_nil])
      clear hend
      go_wp2
      go_ret
      refine ⟨_, rfl, ?_, box_below (unhide HB)⟩
      rw [PcsAt, ← unhide HE]
      exact ownsRow_base (unhide HOWN)

end Go.Proofs.Ytljodhcfimklkaa

namespace Go.Proofs.Ytljodhcfimklkaa
open Go.RowKit

def pcAt (L : List Pc) (k : Nat) : Pc := L.getD k ⟨0, 0, 0⟩
theorem pcAt_eq (L : List Pc) (k : Nat) (h : k < L.length) : pcAt L k = L[k] := by simp [pcAt, h]
theorem PcsAt.opened {w : World} {v : Value} {L : List Pc} (h : PcsAt w v L) :
    (L = [] ∧ (∃ a c, v = .slice a 0 c)) ∨ ∃ g cap, v = .slice (some ⟨g, 0, none⟩) L.length cap ∧ g < w.heap.size ∧ L.length ≤ cap ∧ cap ≤ maxLen ∧
      ∀ k j, k < L.length → j < 3 → w.cell? ⟨g, k * 3 + j, none⟩ = (pcAt L k).cells[j]? := by
  have h' := h
  obtain ⟨hl, h2⟩ := h
  rcases h2 with ⟨rfl, hn⟩ | ⟨g, cap, cur, rfl, _, hg, hnc, hcm, hcs, ht⟩
  · exact .inl ⟨List.eq_nil_of_length_eq_zero hn, _, _, rfl⟩
  · refine .inr ⟨g, cap, rfl, (Array.getElem?_eq_some_iff.1 hg).1, hnc, hcm, fun k j hk hj => ?_⟩
    obtain ⟨g', cap', e1, e2, _⟩ := row_cell h' (k * 3 + j) (by omega)
    cases e1
    rw [e2, flat_get Pc.cells 3 (fun _ => rfl) L k j hk hj, pcAt_eq L k hk]
theorem cells3 {w wx : World} {g : Nat} {L : List Pc} (hc : ∀ k j, k < L.length → j < 3 → w.cell? ⟨g, k * 3 + j, none⟩ = (pcAt L k).cells[j]?) (hg : g < w.heap.size) (hb : Below w.heap.size w wx) {k : Nat} (hk : k < L.length) :
    wx.cell? ⟨g, k * 3, none⟩ = some (.int .i64 (pcAt L k).p) ∧ wx.cell? ⟨g, k * 3 + 1, none⟩ = some (.int .i64 (pcAt L k).i) ∧ wx.cell? ⟨g, k * 3 + 2, none⟩ = some (.int .i64 (pcAt L k).n) := by
  refine ⟨?_, ?_, ?_⟩
  · rw [hb.cell (p := ⟨g, k * 3, none⟩) hg]; exact hc k 0 hk (by omega)
  · rw [hb.cell (p := ⟨g, k * 3 + 1, none⟩) hg]; exact hc k 1 hk (by omega)
  · rw [hb.cell (p := ⟨g, k * 3 + 2, none⟩) hg]; exact hc k 2 hk (by omega)

/-- The code of the first k pieces. -/
def mvTo (op r : Int) (L : List Pc) (k : Nat) : List Ins := (L.take k).map (Pc.ins op r)
theorem mvTo_succ (op r : Int) (L : List Pc) (k : Nat) (h : k < L.length) : mvTo op r L (k + 1) = mvTo op r L k ++ [(pcAt L k).ins op r] := by
  rw [mvTo, List.take_succ_eq_append_getElem h, List.map_append, pcAt_eq L k h]; rfl

set_option maxRecDepth 100000 in
set_option maxHeartbeats 2000000 in
theorem moves_any (op : Int) (s : Sg) (r : Nat) (w : World) (ok : s.Ok) (ft : s.Fits) (ho : op = 71 ∨ op = 80) (hr : r ≤ 7) :
    Calls Try.prog 98 #[.int .u8 op, .agg #[.int .i64 s.pl, .int .u8 s.nm, .int .i64 s.st, .int .i64 s.ln, .int .u8 s.od, .int .u8 s.kd, .int .u8 s.rl], .int .i64 r] w
      fun e w' => e = .returned (.string (codeB (movesL op r s.st s.ln s.od))) ∧ Below w.heap.size w w' := by
  have HPL := hide (plain_moves ok ft ho (show (0 : Int) ≤ r by omega) (by omega))
  obtain ⟨L, HL⟩ : ∃ L, Hid (L = pcs s.st s.ln s.od s.ln.toNat 0) := ⟨_, hide rfl⟩
  have hl5 := (pcs_five ok).1
  have HMV := hide (show movesL op r s.st s.ln s.od = mvTo op r L L.length by rw [movesL, mvTo, List.take_length, unhide HL])
  rw [← unhide HL] at hl5
  have OK := hide ok
  have FT := hide ft
  have HO := hide ho
  clear ok ft ho
  go_enter Try.func98, Try.ntmps98
  go_wp2_with fail
  refine (pieces_any s.pl s.nm s.st s.ln s.od s.kd s.rl _ (unhide OK).st0 (unhide OK).st1 (unhide OK).ln0 (unhide OK).ln1 (unhide OK).od (unhide FT)).mono ?_
  rintro e w1 ⟨v, rfl, hpv, hb1⟩
  rw [← unhide HL] at hpv
  have HB1 := hide (((Below.refl _ _).alloc (Nat.le_refl _) _).trans (hb1.mono (by simp)))
  clear hb1
  rcases hpv.opened with ⟨hnil, a, cc, rfl⟩ | ⟨g, cap, rfl, hg, hcap, hcm, hc⟩
  · have HE := hide (show movesL op r s.st s.ln s.od = [] by rw [unhide HMV, hnil]; rfl)
    clear hnil hpv
    go_wp2
    refine wp_loop_rounds 1 ?_
    rw [rounds_succ]
    go_wp2
    go_ret
    exact ⟨by rw [unhide HE]; rfl, unhide HB1⟩
  have HC := hide hc
  clear hc hpv
  go_wp2
  go_loopw [7, 9] (fun c i wr => ∃ k : Nat, k ≤ L.length ∧ i = .int .i64 k ∧ c = .string (codeB (mvTo op r L k)) ∧ Below w1.heap.size w1 wr) (fun _ i _ => L.length - (intOf i).toNat)
  case atStart => exact ⟨0, by omega, rfl, rfl, Below.refl _ _⟩
  case round =>
    obtain ⟨k, hk, rfl, rfl, hb⟩ := hrel
    have HB := hide hb
    clear hb
    by_cases hlt : k < L.length
    · have hc3 := cells3 (unhide HC) hg (unhide HB) hlt
      have hsz := codeB_size (mvTo op r L k)
      have hsl : (mvTo op r L k).length ≤ 5 := by simp [mvTo]; omega
      have HSU := hide (mvTo_succ op r L k hlt)
      have HBY := hide (show ((pcAt L k).ins op r).Byt from (unhide HPL _ (by
        rw [unhide HMV, mvTo, List.take_length, List.mem_map]
        exact ⟨pcAt L k, by rw [pcAt_eq L k hlt]; exact List.getElem_mem hlt, rfl⟩)).1)
      have hi0 : (0 : Int) ≤ (k : Int) := by omega
      have hi1 : (k : Int) < (L.length : Int) := by omega
      generalize pcAt L k = pc at *
      obtain ⟨c0, c1, c2⟩ := hc3
      go_wp2_with fail
      refine (instructionText_any op r pc.p pc.i pc.n _ (unhide HBY)).mono ?_
      rintro e w2 ⟨rfl, hb2⟩
      have HB2 := hide ((unhide HB).trans ((box_below (hb2.mono (by simp))).mono (unhide HB).size))
      have hsz2 := codeB_size [(⟨op, r, pc.p, pc.i, pc.n⟩ : Ins)]
      clear hb2 c0 c1 c2
      go_wp2
      go_roundw
      case rel => exact ⟨k + 1, by omega, by go_num, by rw [unhide HSU, codeB_app]; rfl, unhide HB2⟩
      case measure => simp [intOf]; omega
    · have hkn : k = L.length := by omega
      have HK := hide hkn
      clear hkn
      go_wp2
      go_ret
      exact ⟨by rw [unhide HMV, ← unhide HK]; rfl, (unhide HB1).trans ((unhide HB).mono (unhide HB1).size)⟩

end Go.Proofs.Ytljodhcfimklkaa

namespace Go.Proofs.Ytljodhcfimklkaa
open Go.RowKit

theorem codeB_cons (x : Ins) (l : List Ins) : codeB (x :: l) = codeB [x] ++ codeB l := codeB_app [x] l
theorem moves_len {s : Sg} (ok : s.Ok) (op r : Int) : (movesL op r s.st s.ln s.od).length ≤ 5 := by
  have := (pcs_five ok).1
  simpa [movesL] using this

set_option maxRecDepth 100000 in
set_option maxHeartbeats 2000000 in
theorem packSteps_any (s : Sg) (r : Nat) (w : World) (ok : s.Ok) (ft : s.Fits) (hr : r ≤ 7) :
    Calls Try.prog 86 #[.agg #[.int .i64 s.pl, .int .u8 s.nm, .int .i64 s.st, .int .i64 s.ln, .int .u8 s.od, .int .u8 s.kd, .int .u8 s.rl], .int .i64 r] w
      fun e w' => e = .returned (.string (codeB (pSteps s r))) ∧ Below w.heap.size w w' := by
  have HR := hide (show codeB (pSteps s r) = codeB [⟨82, r, 0, sgnK s.kd, s.ln⟩] ++ codeB (movesL 80 r s.st s.ln s.od) from codeB_cons _ _)
  have HBY := hide ((plain_pSteps ok ft (show (0 : Int) ≤ r by omega) (by omega)) _ (List.mem_cons_self)).1
  have hs1 := codeB_size [(⟨82, r, 0, sgnK s.kd, s.ln⟩ : Ins)]
  have hs2 := codeB_size (movesL 80 r s.st s.ln s.od)
  have hm5 := moves_len ok 80 (r : Int)
  have OK := hide ok
  have FT := hide ft
  rcases ok.kd with hk | hk
  · have hk2 : (s.kd == 115) = false := by rw [hk]; rfl
    rw [show sgnK s.kd = 0 by rw [hk]; rfl] at *
    clear hk ok ft
    go_enter Try.func86, Try.ntmps86
    go_wp2_with fail
    refine (instructionText_any 82 r 0 0 s.ln _ (unhide HBY)).mono ?_
    rintro e w1 ⟨rfl, hb1⟩
    have HB1 : Hid (Below (w.heap.size + 1) (w.alloc (.cells #[.int .i64 s.pl, .int .u8 s.nm, .int .i64 s.st, .int .i64 s.ln, .int .u8 s.od, .int .u8 s.kd, .int .u8 s.rl] 121)) w1) := hide (hb1.mono (by simp))
    have hc1 := box_cell (unhide HB1)
    clear hb1
    go_wp2_with fail
    refine (moves_any 80 s r _ (unhide OK) (unhide FT) (.inr rfl) hr).mono ?_
    rintro e w2 ⟨rfl, hb2⟩
    have HB2 := hide (box_next (unhide HB1) hb2)
    clear hb2 hc1
    go_wp2
    go_ret
    exact ⟨by rw [unhide HR]; rfl, box_below (unhide HB2)⟩
  · have hk2 : (s.kd == 115) = true := by rw [hk]; rfl
    rw [show sgnK s.kd = 1 by rw [hk]; rfl] at *
    clear hk ok ft
    go_enter Try.func86, Try.ntmps86
    go_wp2_with fail
    refine (instructionText_any 82 r 0 1 s.ln _ (unhide HBY)).mono ?_
    rintro e w1 ⟨rfl, hb1⟩
    have HB1 : Hid (Below (w.heap.size + 1) (w.alloc (.cells #[.int .i64 s.pl, .int .u8 s.nm, .int .i64 s.st, .int .i64 s.ln, .int .u8 s.od, .int .u8 s.kd, .int .u8 s.rl] 121)) w1) := hide (hb1.mono (by simp))
    have hc1 := box_cell (unhide HB1)
    clear hb1
    go_wp2_with fail
    refine (moves_any 80 s r _ (unhide OK) (unhide FT) (.inr rfl) hr).mono ?_
    rintro e w2 ⟨rfl, hb2⟩
    have HB2 := hide (box_next (unhide HB1) hb2)
    clear hb2 hc1
    go_wp2
    go_ret
    exact ⟨by rw [unhide HR]; rfl, box_below (unhide HB2)⟩

set_option maxRecDepth 100000 in
set_option maxHeartbeats 2000000 in
theorem unpackSteps_any (s : Sg) (r : Nat) (w : World) (ok : s.Ok) (ft : s.Fits) (hr : r ≤ 7) :
    Calls Try.prog 88 #[.agg #[.int .i64 s.pl, .int .u8 s.nm, .int .i64 s.st, .int .i64 s.ln, .int .u8 s.od, .int .u8 s.kd, .int .u8 s.rl], .int .i64 r] w
      fun e w' => e = .returned (.string (codeB (uSteps s r))) ∧ Below w.heap.size w w' := by
  have hpl := plain_uSteps ok ft (show (0 : Int) ≤ r by omega) (by omega)
  have HBA := hide (show (⟨65, r, 0, 0, 0⟩ : Ins).Byt from (hpl _ (by simp [uSteps])).1)
  have hs1 := codeB_size [(⟨65, r, 0, 0, 0⟩ : Ins)]
  have hs2 := codeB_size (movesL 71 r s.st s.ln s.od)
  have hs3 := codeB_size [(⟨88, r, 0, 0, s.ln⟩ : Ins)]
  have hm5 := moves_len ok 71 (r : Int)
  have OK := hide ok
  have FT := hide ft
  rcases ok.kd with hk | hk
  · have hk2 : (s.kd == 115) = false := by rw [hk]; rfl
    have HR := hide (show codeB (uSteps s r) = codeB (movesL 71 r s.st s.ln s.od) ++ codeB [⟨65, r, 0, 0, 0⟩] by rw [uSteps, xStep, if_neg (by omega), List.append_nil, codeB_app])
    clear hk ok ft hpl
    go_enter Try.func88, Try.ntmps88
    go_wp2_with fail
    refine (moves_any 71 s r _ (unhide OK) (unhide FT) (.inl rfl) hr).mono ?_
    rintro e w1 ⟨rfl, hb1⟩
    have HB1 : Hid (Below (w.heap.size + 1) (w.alloc (.cells #[.int .i64 s.pl, .int .u8 s.nm, .int .i64 s.st, .int .i64 s.ln, .int .u8 s.od, .int .u8 s.kd, .int .u8 s.rl] 121)) w1) := hide (hb1.mono (by simp))
    have hc1 := box_cell (unhide HB1)
    clear hb1
    go_wp2_with fail
    refine (instructionText_any 65 r 0 0 0 _ (unhide HBA)).mono ?_
    rintro e w2 ⟨rfl, hb2⟩
    have HB2 := hide (box_next (unhide HB1) hb2)
    clear hb2 hc1
    go_wp2
    go_ret
    exact ⟨by rw [unhide HR]; rfl, box_below (unhide HB2)⟩
  · have hk2 : (s.kd == 115) = true := by rw [hk]; rfl
    have HBX := hide (show (⟨88, r, 0, 0, s.ln⟩ : Ins).Byt from (hpl _ (by simp [uSteps, xStep, hk])).1)
    have HR := hide (show codeB (uSteps s r) = codeB (movesL 71 r s.st s.ln s.od) ++ codeB [⟨88, r, 0, 0, s.ln⟩] ++ codeB [⟨65, r, 0, 0, 0⟩] by rw [uSteps, xStep, if_pos hk, codeB_app, codeB_app])
    clear hk ok ft hpl
    go_enter Try.func88, Try.ntmps88
    go_wp2_with fail
    refine (moves_any 71 s r _ (unhide OK) (unhide FT) (.inl rfl) hr).mono ?_
    rintro e w1 ⟨rfl, hb1⟩
    have HB1 : Hid (Below (w.heap.size + 1) (w.alloc (.cells #[.int .i64 s.pl, .int .u8 s.nm, .int .i64 s.st, .int .i64 s.ln, .int .u8 s.od, .int .u8 s.kd, .int .u8 s.rl] 121)) w1) := hide (hb1.mono (by simp))
    have hc1 := box_cell (unhide HB1)
    clear hb1
    go_wp2_with fail
    refine (instructionText_any 88 r 0 0 s.ln _ (unhide HBX)).mono ?_
    rintro e w2 ⟨rfl, hb2⟩
    have HB2 := hide (box_next (unhide HB1) hb2)
    clear hb2 hc1
    go_wp2_with fail
    refine (instructionText_any 65 r 0 0 0 _ (unhide HBA)).mono ?_
    rintro e w3 ⟨rfl, hb3⟩
    have HB3 := hide (box_next (unhide HB2) hb3)
    clear hb3
    go_wp2
    go_ret
    exact ⟨by rw [unhide HR]; rfl, box_below (unhide HB3)⟩

set_option maxRecDepth 100000 in
set_option maxHeartbeats 2000000 in
theorem ifActive_any (s : Sg) (mux : Int) (l : List Ins) (w : World) (r0 : 0 ≤ s.rl) (r1 : s.rl ≤ 255) (hm : isDigB s.rl = true → 0 ≤ mux ∧ mux ≤ 7) (hl : l.length ≤ 255) :
    Calls Try.prog 87 #[.agg #[.int .i64 s.pl, .int .u8 s.nm, .int .i64 s.st, .int .i64 s.ln, .int .u8 s.od, .int .u8 s.kd, .int .u8 s.rl], .int .i64 mux, .string (codeB l)] w
      fun e w' => e = .returned (.string (codeB (ifAct s mux l))) ∧ Below w.heap.size w w' := by
  have hs2 := codeB_size l
  cases hd : isDigB s.rl with
  | false =>
    have HR := hide (show codeB (ifAct s mux l) = codeB l by rw [ifAct, hd]; rfl)
    go_enter Try.func87, Try.ntmps87
    go_wp2_with (go_at_call 95; refine (isDigit_any _ _).mono ?_; rintro e w' ⟨rfl, rfl⟩)
    go_ret
    exact ⟨by rw [unhide HR]; rfl, (Below.refl _ _).alloc (Nat.le_refl _) _⟩
  | true =>
    obtain ⟨m0, m7⟩ := hm hd
    have HD := hide hd
    have hd2 := hd
    simp [isDigB] at hd2
    obtain ⟨d0, d1⟩ := hd2
    have hq : ((codeB l).size : Int) / 5 = (l.length : Int) := by rw [hs2]; omega
    have HW := hide (dig_worth d0 d1)
    have HR := hide (show codeB (ifAct s mux l) = codeB [⟨74, mux, s.rl - 48, 0, l.length⟩] ++ codeB l by rw [ifAct, if_pos hd, codeB_cons])
    have HBY := hide (show (⟨74, mux, s.rl - 48, 0, l.length⟩ : Ins).Byt from ⟨by simp, by simp, m0, by simp only; omega, by simp only; omega, by simp only; omega, by simp, by simp, by simp only; omega, by simp only; omega⟩)
    have hs1 := codeB_size [(⟨74, mux, s.rl - 48, 0, l.length⟩ : Ins)]
    clear hm
    go_enter Try.func87, Try.ntmps87
    go_wp2_with (go_at_call 95; refine (isDigit_any _ _).mono ?_; rintro e w' ⟨rfl, rfl⟩)
    refine (digitWorth_any _ _ r0 r1).mono ?_
    rintro e w1 ⟨rfl, rfl⟩
    rw [unhide HW]
    go_wp2_with fail
    refine (instructionText_any 74 mux (s.rl - 48) 0 l.length _ (unhide HBY)).mono ?_
    rintro e w2 ⟨rfl, hb2⟩
    have HB2 := hide (((Below.refl w.heap.size w).alloc (Nat.le_refl _) (.cells #[.int .i64 s.pl, .int .u8 s.nm, .int .i64 s.st, .int .i64 s.ln, .int .u8 s.od, .int .u8 s.kd, .int .u8 s.rl] 121)).trans (hb2.mono (by simp)))
    clear hb2
    go_wp2
    go_ret
    exact ⟨by rw [unhide HR]; rfl, unhide HB2⟩

end Go.Proofs.Ytljodhcfimklkaa

namespace Go.Proofs.Ytljodhcfimklkaa
open Go.RowKit

theorem pk_eta (x : ByteArray × Int × Int) {a : ByteArray} {b c : Int} (h : x = (a, b, c)) : x.1 = a ∧ x.2.1 = b ∧ x.2.2 = c := by rw [h]; exact ⟨rfl, rfl, rfl⟩

set_option maxRecDepth 100000 in
set_option maxHeartbeats 2000000 in
theorem Pack_any (s id : ByteArray) (vz : Value) (Z : List Int) (w : World) (hs : s.size ≤ maxLen) (hid : id.size ≤ maxLen) (hz : IntsAt w vz Z) :
    Calls Try.prog 19 #[.string s, .string id, vz] w fun e w' => e = .returned (.tuple #[.string (pk s id Z).1, .int .i64 (pk s id Z).2.1, .int .i64 (pk s id Z).2.2]) ∧ Below w.heap.size w w' := by
  have HZZ := hide hz
  obtain ⟨za, zcap, rfl, hz1, hz2, hz3⟩ := hz
  have HZ2 := hide hz2
  have HZ3 := hide hz3
  clear hz2 hz3
  go_enter Try.func19, Try.ntmps19
  go_wp2_with fail
  refine (soundMessage_any s id _ hs hid).mono ?_
  rintro e w1 ⟨hout, hb1⟩
  have HB1 := hide hb1
  clear hb1
  rcases hout with ⟨hz, rfl⟩ | ⟨hz, M, hpd, hout⟩
  · have HP := hide (pk_eta _ (pk_bad (id := id) (Z := Z) hz))
    have hz2 : (chkE s != 0) = true := by simpa using hz
    clear hz
    go_wp2
    go_ret3
    exact ⟨by rw [(unhide HP).1, (unhide HP).2.1, (unhide HP).2.2]; rfl, (unhide HB1).alloc (unhide HB1).size _⟩
  rcases hout with ⟨hix, rfl⟩ | ⟨k, sv, hk, hix, rfl, hsv, hmo⟩
  · have HP := hide (pk_eta _ (pk_id (Z := Z) hz hpd hix))
    clear hz hpd hix
    go_wp2
    go_ret3
    exact ⟨by rw [(unhide HP).1, (unhide HP).2.1, (unhide HP).2.2]; rfl, (unhide HB1).alloc (unhide HB1).size _⟩
  obtain ⟨m, hm⟩ : ∃ m, m = mAt M k := ⟨_, rfl⟩
  have HPK := hide (pk_msg (Z := Z) hz hpd hix)
  have HG := hide (good_of hpd hk).2
  have HAF := hide (sound_fits hz hpd hk)
  rw [← hm] at hsv hmo HPK HG HAF
  rw [← hm]
  obtain ⟨va, vcap, rfl⟩ := ownsRow_form hsv
  have HSV := hide hsv
  have HMO := hide hmo
  have hlen8 := hmo.len
  have hsz0 := hmo.sz0
  have hsz1 := hmo.sz1
  have hszn : ((m.sz.toNat : Nat) : Int) = m.sz := Int.toNat_of_nonneg hmo.sz0
  have HSN := hide hszn
  clear hz hpd hix hsv hmo hm hk hszn
  have HBB : Hid (Below (w1.heap.size + 1) (w1.alloc (.cells #[.int .i64 m.pl, .int .i64 (idNum m.id), .int .i64 m.sz, .slice va m.sigs.length vcap] 74)) (w1.alloc (.cells #[.int .i64 m.pl, .int .i64 (idNum m.id), .int .i64 m.sz, .slice va m.sigs.length vcap] 74))) := hide (Below.refl _ _)
  by_cases hln : Z.length = m.sigs.length
  · have hl2 : ((Z.length : Int) != (m.sigs.length : Int)) = false := by rw [hln]; simp
    have HLN := hide hln
    have hle1 : Z.length ≤ m.sigs.length := by omega
    have hle2 : m.sigs.length ≤ Z.length := by omega
    clear hln
    go_wp2_with fail
    refine (multiplexor_any _ m.sigs _ (ownsRow_below (unhide HSV) (box_below (unhide HBB))) hlen8).mono ?_
    rintro e w2 ⟨rfl, rfl⟩
    have HC : Hid (IntsAt w1 (.slice za Z.length zcap) Z) := hide ((unhide HZZ).below (unhide HB1))
    rcases mux_range m.sigs with hmx | ⟨x, hx, hmx, _⟩
    · have HCH := hide (show choiceOf m.sigs Z = 0 by rw [choiceOf, hmx]; rfl)
      have hmx2 : muxOf m.sigs < 0 := by omega
      clear hmx
      go_wp2_with fail
      refine (firstUnfit_any _ _ m.sigs Z 0 _ (ownsRow_below (unhide HSV) (box_below (unhide HBB))) ((unhide HC).below (box_below (unhide HBB))) (unhide HLN) (unhide HG)).mono ?_
      rintro e w3 ⟨rfl, hb3⟩
      have HB3 := hide (box_next (unhide HBB) hb3)
      have hx3 := box_cell (unhide HB3)
      clear hb3
      by_cases hu : 0 ≤ firstUn m.sigs Z 0
      · have HP := hide (pk_eta _ (show pk s id Z = (noBytes, 9, firstUn m.sigs Z 0) by rw [unhide HPK, pkMsg, if_neg (by rw [unhide HLN]; simp), unhide HCH, if_pos hu]))
        go_wp2
        go_ret3
        exact ⟨by rw [(unhide HP).1, (unhide HP).2.1, (unhide HP).2.2]; rfl, (unhide HB1).trans ((box_below (unhide HB3)).mono (unhide HB1).size)⟩
      · have HP := hide (pk_eta _ (show pk s id Z = (payB (bitsTo m.sigs Z 0 m.sigs.length) m.sz.toNat, 0, 0) by rw [unhide HPK, pkMsg, if_neg (by rw [unhide HLN]; simp), unhide HCH, if_neg hu]))
        go_wp2_with fail
        refine (packBits_any _ _ m.sigs Z 0 _ (ownsRow_below (unhide HSV) (box_below (unhide HB3))) ((unhide HC).below (box_below (unhide HB3))) (unhide HLN) (unhide HG) (unhide HAF)).mono ?_
        rintro e w4 ⟨rfl, hb4⟩
        have HB4 := hide (box_next (unhide HB3) hb4)
        clear hx3 hb4
        have hx4 := box_cell (unhide HB4)
        go_wp2_with fail
        rw [← unhide HSN]
        refine (payloadText_any _ m.sz.toNat _ (by omega)).mono ?_
        rintro e w5 ⟨rfl, hb5⟩
        have HB5 := hide (box_next (unhide HB4) hb5)
        clear hx4 hb5
        go_wp2
        go_ret3
        exact ⟨by rw [(unhide HP).1, (unhide HP).2.1, (unhide HP).2.2]; rfl, (unhide HB1).trans ((box_below (unhide HB5)).mono (unhide HB1).size)⟩
    · have hchx : choiceOf m.sigs Z = zAt Z x := by rw [choiceOf, hmx, if_pos (by omega), Int.toNat_natCast]
      have HCH := hide hchx
      rw [hmx]
      have hi0 : (0 : Int) ≤ (x : Int) := by omega
      have hi1 : (x : Int) < (Z.length : Int) := by omega
      cases za with
      | none => have := unhide HZ2 rfl; omega
      | some xa =>
        have hzc := ints_cell (unhide HZ3 xa rfl) (Below.trans (unhide HB1) ((box_below (unhide HBB)).mono (unhide HB1).size)) (show x < Z.length by omega)
        clear hchx hmx
        go_wp2_with fail
        refine (firstUnfit_any _ _ m.sigs Z (zAt Z x) _ (ownsRow_below (unhide HSV) (box_below (unhide HBB))) ((unhide HC).below (box_below (unhide HBB))) (unhide HLN) (unhide HG)).mono ?_
        rintro e w3 ⟨rfl, hb3⟩
        have HB3 := hide (box_next (unhide HBB) hb3)
        have hx3 := box_cell (unhide HB3)
        clear hb3
        by_cases hu : 0 ≤ firstUn m.sigs Z (zAt Z x)
        · have HP := hide (pk_eta _ (show pk s id Z = (noBytes, 9, firstUn m.sigs Z (zAt Z x)) by rw [unhide HPK, pkMsg, if_neg (by rw [unhide HLN]; simp), unhide HCH, if_pos hu]))
          go_wp2
          go_ret3
          exact ⟨by rw [(unhide HP).1, (unhide HP).2.1, (unhide HP).2.2]; rfl, (unhide HB1).trans ((box_below (unhide HB3)).mono (unhide HB1).size)⟩
        · have HP := hide (pk_eta _ (show pk s id Z = (payB (bitsTo m.sigs Z (zAt Z x) m.sigs.length) m.sz.toNat, 0, 0) by rw [unhide HPK, pkMsg, if_neg (by rw [unhide HLN]; simp), unhide HCH, if_neg hu]))
          go_wp2_with fail
          refine (packBits_any _ _ m.sigs Z (zAt Z x) _ (ownsRow_below (unhide HSV) (box_below (unhide HB3))) ((unhide HC).below (box_below (unhide HB3))) (unhide HLN) (unhide HG) (unhide HAF)).mono ?_
          rintro e w4 ⟨rfl, hb4⟩
          have HB4 := hide (box_next (unhide HB3) hb4)
          clear hx3 hb4
          have hx4 := box_cell (unhide HB4)
          go_wp2_with fail
          rw [← unhide HSN]
          refine (payloadText_any _ m.sz.toNat _ (by omega)).mono ?_
          rintro e w5 ⟨rfl, hb5⟩
          have HB5 := hide (box_next (unhide HB4) hb5)
          clear hx4 hb5
          go_wp2
          go_ret3
          exact ⟨by rw [(unhide HP).1, (unhide HP).2.1, (unhide HP).2.2]; rfl, (unhide HB1).trans ((box_below (unhide HB5)).mono (unhide HB1).size)⟩
  · have HP := hide (pk_eta _ (show pk s id Z = (noBytes, 8, 0) by rw [unhide HPK, pkMsg, if_pos hln]))
    have hl2 : ((Z.length : Int) != (m.sigs.length : Int)) = true := by rw [bne_iff_ne]; omega
    clear hln
    go_wp2
    go_ret3
    exact ⟨by rw [(unhide HP).1, (unhide HP).2.1, (unhide HP).2.2]; rfl, (unhide HB1).alloc (unhide HB1).size _⟩

end Go.Proofs.Ytljodhcfimklkaa

namespace Go.Proofs.Ytljodhcfimklkaa
open Go.RowKit

theorem mux_lim {L : List Sg} {sz : Int} (hs : Sound L sz) (hg : Good L) {k : Nat} (hk : k < L.length) : isDigB (sgAt L k).rl = true → 0 ≤ muxOf L ∧ muxOf L ≤ 7 := fun hd => ⟨sound_mux hs hk hd, mux_hi L hg.1⟩

set_option maxRecDepth 100000 in
set_option maxHeartbeats 2000000 in
theorem packCode_any (v : Value) (L : List Sg) (sz : Int) (w : World) (h : SigsAt w v L) (hg : Good L) (hf : AllFits L) (hs : Sound L sz) :
    Calls Try.prog 63 #[v] w fun e w' => e = .returned (.string (codeB (packTo L L.length))) ∧ Below w.heap.size w w' := by
  have hl := hg.1
  have HG := hide hg
  have HF := hide hf
  have HS := hide hs
  have HV := hide h
  clear hg hf hs
  rcases h.opened with ⟨rfl, a, cc, rfl⟩ | ⟨g, cap, rfl, hgl, hcap, hcm, hc⟩
  · go_enter Try.func63, Try.ntmps63
    go_wp2_with fail
    refine (multiplexor_any _ [] _ (unhide HV) (by simp)).mono ?_
    rintro e w0 ⟨rfl, rfl⟩
    go_wp2
    refine wp_loop_rounds 1 ?_
    rw [rounds_succ]
    go_wp2
    go_ret
    exact ⟨rfl, Below.refl _ _⟩
  have HC := hide hc
  clear hc h
  go_enter Try.func63, Try.ntmps63
  go_wp2_with fail
  refine (multiplexor_any _ L _ (unhide HV) hl).mono ?_
  rintro e w0 ⟨rfl, rfl⟩
  go_wp2
  go_loopw [3, 5] (fun c i wr => ∃ k : Nat, k ≤ L.length ∧ i = .int .i64 k ∧ c = .string (codeB (packTo L k)) ∧ Below w0.heap.size w0 wr) (fun _ i _ => L.length - (intOf i).toNat)
  case atStart => exact ⟨0, by omega, rfl, rfl, Below.refl _ _⟩
  case round =>
    obtain ⟨k, hk, rfl, rfl, hb⟩ := hrel
    have HB := hide hb
    clear hb
    by_cases hlt : k < L.length
    · have c7 := cells7 (unhide HC) hgl (unhide HB) hlt
      obtain ⟨ok, r0, r1⟩ := (unhide HG).2 k hlt
      have OK := hide ok
      have hi0 : (0 : Int) ≤ (k : Int) := by omega
      have hi1 : (k : Int) < (L.length : Int) := by omega
      have hpl := (pSteps_len ok (k : Int)).1
      have hil := ifAct_len (sgAt L k) (muxOf L) (pSteps (sgAt L k) k)
      have hpf := (pack_fine (unhide HS) (unhide HG) (unhide HF) k (by omega)).2
      have hs1 := codeB_size (packTo L k)
      have hs2 := codeB_size (ifAct (sgAt L k) (muxOf L) (pSteps (sgAt L k) k))
      clear ok
      go_wp2_with fail
      refine (packSteps_any (sgAt L k) k _ (unhide OK) (unhide HF k hlt) (by omega)).mono ?_
      rintro e w1 ⟨rfl, hb1⟩
      have HB1 := hide ((unhide HB).trans (hb1.mono (unhide HB).size))
      have c71 := cells7 (unhide HC) hgl (unhide HB1) hlt
      clear hb1 c7
      go_wp2_with fail
      refine (ifActive_any (sgAt L k) (muxOf L) (pSteps (sgAt L k) k) _ r0 r1 (mux_lim (unhide HS) (unhide HG) hlt) (by omega)).mono ?_
      rintro e w2 ⟨rfl, hb2⟩
      have HB2 := hide ((unhide HB1).trans (hb2.mono (unhide HB1).size))
      clear hb2 c71
      go_wp2
      go_roundw
      case rel => exact ⟨k + 1, by omega, by go_num, by rw [packTo, sigP, codeB_app], unhide HB2⟩
      case measure => simp [intOf]; omega
    · have hkn : k = L.length := by omega
      have HK := hide hkn
      clear hkn
      go_wp2
      go_ret
      exact ⟨by rw [← unhide HK]; rfl, unhide HB⟩

set_option maxRecDepth 100000 in
set_option maxHeartbeats 2000000 in
theorem unpackCode_any (v : Value) (L : List Sg) (sz : Int) (w : World) (h : SigsAt w v L) (hg : Good L) (hf : AllFits L) (hs : Sound L sz) :
    Calls Try.prog 64 #[v] w fun e w' => e = .returned (.string (codeB (unpackTo L L.length))) ∧ Below w.heap.size w w' := by
  have hl := hg.1
  have HG := hide hg
  have HF := hide hf
  have HS := hide hs
  have HV := hide h
  clear hg hf hs
  rcases h.opened with ⟨rfl, a, cc, rfl⟩ | ⟨g, cap, rfl, hgl, hcap, hcm, hc⟩
  · go_enter Try.func64, Try.ntmps64
    go_wp2_with fail
    refine (multiplexor_any _ [] _ (unhide HV) (by simp)).mono ?_
    rintro e w0 ⟨rfl, rfl⟩
    rw [show muxOf [] = -1 from rfl]
    go_wp2
    refine wp_loop_rounds 1 ?_
    rw [rounds_succ]
    go_wp2
    go_ret
    exact ⟨rfl, Below.refl _ _⟩
  have HC := hide hc
  clear hc h
  go_enter Try.func64, Try.ntmps64
  go_wp2_with fail
  refine (multiplexor_any _ L _ (unhide HV) hl).mono ?_
  rintro e w0 ⟨rfl, rfl⟩
  rcases mux_range L with hmx | ⟨x, hx, hmx, hrl⟩
  · have HMX := hide hmx
    have HH := hide (show codeB (unpackTo L 0) = { data := #[] } by rw [unpackTo, headU, if_neg (by omega)]; rfl)
    have hmneg : muxOf L < 0 := by omega
    clear hmx
    go_wp2
    go_loopw [3, 5] (fun c i wr => ∃ k : Nat, k ≤ L.length ∧ i = .int .i64 k ∧ c = .string (codeB (unpackTo L k)) ∧ Below w0.heap.size w0 wr) (fun _ i _ => L.length - (intOf i).toNat)
    case atStart => exact ⟨0, by omega, rfl, by rw [unhide HH], Below.refl _ _⟩
    case round =>
      obtain ⟨k, hk, rfl, rfl, hb⟩ := hrel
      have HB := hide hb
      clear hb
      by_cases hlt : k < L.length
      · have hi0 : (0 : Int) ≤ (k : Int) := by omega
        have hi1 : (k : Int) < (L.length : Int) := by omega
        · have hne : ((k : Int) != muxOf L) = true := by rw [bne_iff_ne]; omega
          have c7 := cells7 (unhide HC) hgl (unhide HB) hlt
          obtain ⟨ok, r0, r1⟩ := (unhide HG).2 k hlt
          have OK := hide ok
          have hpl := (uSteps_len ok (k : Int)).1
          have hil := ifAct_len (sgAt L k) (muxOf L) (uSteps (sgAt L k) k)
          have hpf := (unpack_fine (unhide HS) (unhide HG) (unhide HF) k (by omega)).2
          have hs1 := codeB_size (unpackTo L k)
          have hs2 := codeB_size (ifAct (sgAt L k) (muxOf L) (uSteps (sgAt L k) k))
          have HSU := hide (show codeB (unpackTo L (k + 1)) = codeB (unpackTo L k) ++ codeB (ifAct (sgAt L k) (muxOf L) (uSteps (sgAt L k) k)) by rw [unpackTo, sigU, if_neg (by omega), codeB_app])
          clear ok
          go_wp2_with fail
          refine (unpackSteps_any (sgAt L k) k _ (unhide OK) (unhide HF k hlt) (by omega)).mono ?_
          rintro e w1 ⟨rfl, hb1⟩
          have HB1 := hide ((unhide HB).trans (hb1.mono (unhide HB).size))
          have c71 := cells7 (unhide HC) hgl (unhide HB1) hlt
          clear hb1 c7
          go_wp2_with fail
          refine (ifActive_any (sgAt L k) (muxOf L) (uSteps (sgAt L k) k) _ r0 r1 (mux_lim (unhide HS) (unhide HG) hlt) (by omega)).mono ?_
          rintro e w2 ⟨rfl, hb2⟩
          have HB2 := hide ((unhide HB1).trans (hb2.mono (unhide HB1).size))
          clear hb2 c71
          go_wp2
          go_roundw
          case rel => exact ⟨k + 1, by omega, by go_num, by rw [unhide HSU], unhide HB2⟩
          case measure => simp [intOf]; omega
      · have hkn : k = L.length := by omega
        have HK := hide hkn
        clear hkn
        go_wp2
        go_ret
        exact ⟨by rw [← unhide HK]; rfl, unhide HB⟩
  · have HMX := hide hmx
    have HH := hide (show codeB (unpackTo L 0) = codeB (uSteps (sgAt L x) x) by rw [unpackTo, headU, if_pos (by omega), hmx, Int.toNat_natCast])
    have c7 := cells7 (unhide HC) hgl (Below.refl w0.heap.size w0) hx
    have hi0 : (0 : Int) ≤ (x : Int) := by omega
    have hi1 : (x : Int) < (L.length : Int) := by omega
    rw [hmx]
    clear hmx hrl
    go_wp2_with fail
    refine (unpackSteps_any (sgAt L x) x _ ((unhide HG).2 x hx).1 (unhide HF x hx) (by omega)).mono ?_
    rintro e wh ⟨rfl, hbh⟩
    have HBH := hide hbh
    clear hbh c7
    go_wp2
    go_loopw [3, 5] (fun c i wr => ∃ k : Nat, k ≤ L.length ∧ i = .int .i64 k ∧ c = .string (codeB (unpackTo L k)) ∧ Below w0.heap.size w0 wr) (fun _ i _ => L.length - (intOf i).toNat)
    case atStart => exact ⟨0, by omega, rfl, by rw [unhide HH], unhide HBH⟩
    case round =>
      obtain ⟨k, hk, rfl, rfl, hb⟩ := hrel
      have HB := hide hb
      clear hb
      by_cases hlt : k < L.length
      · have hi0 : (0 : Int) ≤ (k : Int) := by omega
        have hi1 : (k : Int) < (L.length : Int) := by omega
        by_cases hkx : k = x
        · have HSU := hide (show codeB (unpackTo L (k + 1)) = codeB (unpackTo L k) by rw [unpackTo, sigU, if_pos (by rw [unhide HMX, hkx]), List.append_nil])
          have hne : ((k : Int) != (x : Int)) = false := by rw [hkx]; simp
          clear hkx
          go_wp2
          go_roundw
          case rel => exact ⟨k + 1, by omega, by go_num, by rw [unhide HSU], unhide HB⟩
          case measure => simp [intOf]; omega
        · have hne : ((k : Int) != (x : Int)) = true := by rw [bne_iff_ne]; omega
          have c7 := cells7 (unhide HC) hgl (unhide HB) hlt
          obtain ⟨ok, r0, r1⟩ := (unhide HG).2 k hlt
          have OK := hide ok
          have hpl := (uSteps_len ok (k : Int)).1
          have hil := ifAct_len (sgAt L k) (x : Int) (uSteps (sgAt L k) k)
          have hpf := (unpack_fine (unhide HS) (unhide HG) (unhide HF) k (by omega)).2
          have hs1 := codeB_size (unpackTo L k)
          have hs2 := codeB_size (ifAct (sgAt L k) (x : Int) (uSteps (sgAt L k) k))
          have HSU := hide (show codeB (unpackTo L (k + 1)) = codeB (unpackTo L k) ++ codeB (ifAct (sgAt L k) (x : Int) (uSteps (sgAt L k) k)) by rw [unpackTo, sigU, if_neg (by rw [unhide HMX]; omega), codeB_app, unhide HMX])
          clear ok
          go_wp2_with fail
          refine (unpackSteps_any (sgAt L k) k _ (unhide OK) (unhide HF k hlt) (by omega)).mono ?_
          rintro e w1 ⟨rfl, hb1⟩
          have HB1 := hide ((unhide HB).trans (hb1.mono (unhide HB).size))
          have c71 := cells7 (unhide HC) hgl (unhide HB1) hlt
          clear hb1 c7
          go_wp2_with fail
          refine (ifActive_any (sgAt L k) (x : Int) (uSteps (sgAt L k) k) _ r0 r1 (fun _ => ⟨by omega, by omega⟩) (by omega)).mono ?_
          rintro e w2 ⟨rfl, hb2⟩
          have HB2 := hide ((unhide HB1).trans (hb2.mono (unhide HB1).size))
          clear hb2 c71
          go_wp2
          go_roundw
          case rel => exact ⟨k + 1, by omega, by go_num, by rw [unhide HSU], unhide HB2⟩
          case measure => simp [intOf]; omega
      · have hkn : k = L.length := by omega
        have HK := hide hkn
        clear hkn
        go_wp2
        go_ret
        exact ⟨by rw [← unhide HK]; rfl, unhide HB⟩

end Go.Proofs.Ytljodhcfimklkaa

namespace Go.Proofs.Ytljodhcfimklkaa
open Go.RowKit

theorem sound_of {s : ByteArray} {M : List Mg} (hz : chkE s = 0) (h : pDb s 4 0 = .inr M) {k : Nat} (hk : k < M.length) : Sound (mAt M k).sigs (mAt M k).sz := fun _ hj => sound_at hz h hk hj
/-- P11, as the program answers it. -/
def cmp (s id : ByteArray) : ByteArray × ByteArray × Int × Int :=
  if chkE s ≠ 0 then (noBytes, noBytes, chkE s, chkP s) else
  match pDb s 4 0 with
  | .inl _ => (noBytes, noBytes, 0, 0)
  | .inr M => if msgIx M id < 0 then (noBytes, noBytes, 7, 0) else (codeB (packTo (mAt M (msgIx M id).toNat).sigs (mAt M (msgIx M id).toNat).sigs.length), codeB (unpackTo (mAt M (msgIx M id).toNat).sigs (mAt M (msgIx M id).toNat).sigs.length), 0, 0)
theorem cm_eta (x : ByteArray × ByteArray × Int × Int) {z a : ByteArray} {b c : Int} (h : x = (z, a, b, c)) : x.1 = z ∧ x.2.1 = a ∧ x.2.2.1 = b ∧ x.2.2.2 = c := by rw [h]; exact ⟨rfl, rfl, rfl, rfl⟩
theorem cmp_bad {s id : ByteArray} (h : chkE s ≠ 0) : cmp s id = (noBytes, noBytes, chkE s, chkP s) := by rw [cmp, if_pos h]
theorem cmp_id {s id : ByteArray} {M : List Mg} (h : chkE s = 0) (hp : pDb s 4 0 = .inr M) (hi : msgIx M id = -1) : cmp s id = (noBytes, noBytes, 7, 0) := by
  rw [cmp, if_neg (by omega), hp]; simp only; rw [if_pos (by omega)]
theorem cmp_msg {s id : ByteArray} {M : List Mg} {k : Nat} (h : chkE s = 0) (hp : pDb s 4 0 = .inr M) (hi : msgIx M id = k) : cmp s id = (codeB (packTo (mAt M k).sigs (mAt M k).sigs.length), codeB (unpackTo (mAt M k).sigs (mAt M k).sigs.length), 0, 0) := by
  rw [cmp, if_neg (by omega), hp]; simp only; rw [if_neg (by omega), hi, Int.toNat_natCast]

set_option maxRecDepth 100000 in
set_option maxHeartbeats 2000000 in
theorem Compile_any (s id : ByteArray) (w : World) (hs : s.size ≤ maxLen) (hid : id.size ≤ maxLen) :
    Calls Try.prog 35 #[.string s, .string id] w fun e w' => e = .returned (.tuple #[.string (cmp s id).1, .string (cmp s id).2.1, .int .i64 (cmp s id).2.2.1, .int .i64 (cmp s id).2.2.2]) ∧ Below w.heap.size w w' := by
  go_enter Try.func35, Try.ntmps35
  go_wp2_with fail
  refine (soundMessage_any s id _ hs hid).mono ?_
  rintro e w1 ⟨hout, hb1⟩
  have HB1 := hide hb1
  clear hb1
  rcases hout with ⟨hz, rfl⟩ | ⟨hz, M, hpd, hout⟩
  · have HP := hide (cm_eta _ (cmp_bad (id := id) hz))
    have hz2 : (chkE s != 0) = true := by simpa using hz
    clear hz
    go_wp2
    exact bodyPost_ret (v := .tuple #[.string noBytes, .string noBytes, .int .i64 (chkE s), .int .i64 (chkP s)]) (by simp [results, Try.results35, go_sem, noBytes]) rfl ⟨by rw [(unhide HP).1, (unhide HP).2.1, (unhide HP).2.2.1, (unhide HP).2.2.2], (unhide HB1).alloc (unhide HB1).size _⟩
  rcases hout with ⟨hix, rfl⟩ | ⟨k, sv, hk, hix, rfl, hsv, hmo⟩
  · have HP := hide (cm_eta _ (cmp_id hz hpd hix))
    clear hz hpd hix
    go_wp2
    exact bodyPost_ret (v := .tuple #[.string noBytes, .string noBytes, .int .i64 7, .int .i64 0]) (by simp [results, Try.results35, go_sem, noBytes]) rfl ⟨by rw [(unhide HP).1, (unhide HP).2.1, (unhide HP).2.2.1, (unhide HP).2.2.2], (unhide HB1).alloc (unhide HB1).size _⟩
  obtain ⟨m, hm⟩ : ∃ m, m = mAt M k := ⟨_, rfl⟩
  have HPK := hide (cm_eta _ (cmp_msg hz hpd hix))
  have HG := hide (good_of hpd hk).2
  have HAF := hide (sound_fits hz hpd hk)
  have HSO := hide (sound_of hz hpd hk)
  rw [← hm] at hsv hmo HPK HG HAF HSO
  rw [← hm]
  obtain ⟨va, vcap, rfl⟩ := ownsRow_form hsv
  have HSV := hide hsv
  clear hz hpd hix hsv hmo hm hk
  have HBB : Hid (Below (w1.heap.size + 1) (w1.alloc (.cells #[.int .i64 m.pl, .int .i64 (idNum m.id), .int .i64 m.sz, .slice va m.sigs.length vcap] 74)) (w1.alloc (.cells #[.int .i64 m.pl, .int .i64 (idNum m.id), .int .i64 m.sz, .slice va m.sigs.length vcap] 74))) := hide (Below.refl _ _)
  go_wp2_with fail
  refine (packCode_any _ m.sigs m.sz _ (ownsRow_below (unhide HSV) (box_below (unhide HBB))) (unhide HG) (unhide HAF) (unhide HSO)).mono ?_
  rintro e w2 ⟨rfl, hb2⟩
  have HB2 := hide (box_next (unhide HBB) hb2)
  have hx2 := box_cell (unhide HB2)
  clear hb2
  go_wp2_with fail
  refine (unpackCode_any _ m.sigs m.sz _ (ownsRow_below (unhide HSV) (box_below (unhide HB2))) (unhide HG) (unhide HAF) (unhide HSO)).mono ?_
  rintro e w3 ⟨rfl, hb3⟩
  have HB3 := hide (box_next (unhide HB2) hb3)
  clear hb3 hx2
  go_wp2
  exact bodyPost_ret (v := .tuple #[.string (codeB (packTo m.sigs m.sigs.length)), .string (codeB (unpackTo m.sigs m.sigs.length)), .int .i64 0, .int .i64 0]) (by simp [results, Try.results35, go_sem]) rfl ⟨by rw [(unhide HPK).1, (unhide HPK).2.1, (unhide HPK).2.2.1, (unhide HPK).2.2.2], (unhide HB1).trans ((box_below (unhide HB3)).mono (unhide HB1).size)⟩

end Go.Proofs.Ytljodhcfimklkaa

namespace Go.Proofs.Ytljodhcfimklkaa
open Go.RowKit

set_option maxHeartbeats 1000000 in
theorem readInstruction_any (t : ByteArray) (w : World) (h5 : t.size = 5) :
    Calls Try.prog 78 #[.string t] w fun e w' =>
      e = .returned (.agg #[.int .u8 (bt t 0), .int .i64 (bt t 1), .int .i64 (bt t 2), .int .i64 (bt t 3), .int .i64 (bt t 4)]) ∧ Below w.heap.size w w' := by
  have hn : ((t.size : Int) != 5) = false := by rw [h5]; rfl
  have i0 : (0 : Int) < (t.size : Int) := by omega
  have i1 : (1 : Int) < (t.size : Int) := by omega
  have i2 : (2 : Int) < (t.size : Int) := by omega
  have i3 : (3 : Int) < (t.size : Int) := by omega
  have i4 : (4 : Int) < (t.size : Int) := by omega
  have H5 := hide h5
  clear h5
  have q0 : 0 < t.size := by omega
  have q1 : 1 < t.size := by omega
  have q2 : 2 < t.size := by omega
  have q3 : 3 < t.size := by omega
  have q4 : 4 < t.size := by omega
  have w1 : IntKind.i64.wrap (t[1].toNat : Int) = (t[1].toNat : Int) := by have := (t[1]).toNat_lt; rw [IntKind.wrap_i64]; omega
  have w2 : IntKind.i64.wrap (t[2].toNat : Int) = (t[2].toNat : Int) := by have := (t[2]).toNat_lt; rw [IntKind.wrap_i64]; omega
  have w3 : IntKind.i64.wrap (t[3].toNat : Int) = (t[3].toNat : Int) := by have := (t[3]).toNat_lt; rw [IntKind.wrap_i64]; omega
  have w4 : IntKind.i64.wrap (t[4].toNat : Int) = (t[4].toNat : Int) := by have := (t[4]).toNat_lt; rw [IntKind.wrap_i64]; omega
  go_enter Try.func78, Try.ntmps78
  go_wp2
  refine wp_region_noPanic ?_
  refine wp_region_held_drew (S := fun _ => True) (by kernel_rfl) trivial (fun hHeld => ?_)
  refine wpAnyH_take (i := 0) (v := ?_) (at_list rfl) (by kernel_rfl) (by kernel_rfl) (by kernel_rfl) (fun _ _ _ h => h) (Or.inl ⟨by rfl, ?_⟩) (by assumption) ?_
  rotate_left
  · intro w hSw; (try dsimp only at hSw); first | (go_simp; done) | (go_simp; with_reducible rfl)
  try simp only [Act.put]
  try simp only [List.setIfInBounds_toArray]
  try simp only [List.set_cons_succ]
  try simp only [List.set_cons_zero]
  refine wpAnyH_take (i := 2) (v := ?_) (at_list rfl) (by kernel_rfl) (by kernel_rfl) (by kernel_rfl) (fun _ _ _ h => h) (Or.inl ⟨by rfl, ?_⟩) (by assumption) ?_
  rotate_left
  · intro w hSw; (try dsimp only at hSw); first | (go_simp; done) | (go_simp; with_reducible rfl)
  try simp only [Act.put]
  try simp only [List.setIfInBounds_toArray]
  try simp only [List.set_cons_succ]
  try simp only [List.set_cons_zero]
  refine wpAnyH_take (i := 5) (v := ?_) (at_list rfl) (by kernel_rfl) (by kernel_rfl) (by kernel_rfl) (fun _ _ _ h => h) (Or.inl ⟨by rfl, ?_⟩) (by assumption) ?_
  rotate_left
  · intro w hSw; (try dsimp only at hSw); first | (go_simp; done) | (go_simp; with_reducible rfl)
  try simp only [Act.put]
  try simp only [List.setIfInBounds_toArray]
  try simp only [List.set_cons_succ]
  try simp only [List.set_cons_zero]
  refine wpAnyH_take (i := 8) (v := ?_) (at_list rfl) (by kernel_rfl) (by kernel_rfl) (by kernel_rfl) (fun _ _ _ h => h) (Or.inl ⟨by rfl, ?_⟩) (by assumption) ?_
  rotate_left
  · intro w hSw; (try dsimp only at hSw); first | (go_simp; done) | (go_simp; with_reducible rfl)
  try simp only [Act.put]
  try simp only [List.setIfInBounds_toArray]
  try simp only [List.set_cons_succ]
  try simp only [List.set_cons_zero]
  refine wpAnyH_take (i := 11) (v := ?_) (at_list rfl) (by kernel_rfl) (by kernel_rfl) (by kernel_rfl) (fun _ _ _ h => h) (Or.inl ⟨by rfl, ?_⟩) (by assumption) ?_
  rotate_left
  · intro w hSw; (try dsimp only at hSw); first | (go_simp; done) | (go_simp; with_reducible rfl)
  try simp only [Act.put]
  try simp only [List.setIfInBounds_toArray]
  try simp only [List.set_cons_succ]
  try simp only [List.set_cons_zero]
  refine wpAnyH_take (i := 1) (v := ?_) (at_list rfl) (by kernel_rfl) (by kernel_rfl) (by kernel_rfl) (fun _ _ _ h => h) (Or.inl ⟨by rfl, ?_⟩) (by assumption) ?_
  rotate_left
  · intro w hSw; (try dsimp only at hSw); first | (go_simp; done) | (go_simp; with_reducible rfl)
  try simp only [Act.put]
  try simp only [List.setIfInBounds_toArray]
  try simp only [List.set_cons_succ]
  try simp only [List.set_cons_zero]
  refine wpAnyH_take (i := 3) (v := ?_) (at_list rfl) (by kernel_rfl) (by kernel_rfl) (by kernel_rfl) (fun _ _ _ h => h) (Or.inl ⟨by rfl, ?_⟩) (by assumption) ?_
  rotate_left
  · intro w hSw; (try dsimp only at hSw); first | (go_simp; done) | (go_simp; with_reducible rfl)
  try simp only [Act.put]
  try simp only [List.setIfInBounds_toArray]
  try simp only [List.set_cons_succ]
  try simp only [List.set_cons_zero]
  refine wpAnyH_take (i := 6) (v := ?_) (at_list rfl) (by kernel_rfl) (by kernel_rfl) (by kernel_rfl) (fun _ _ _ h => h) (Or.inl ⟨by rfl, ?_⟩) (by assumption) ?_
  rotate_left
  · intro w hSw; (try dsimp only at hSw); first | (go_simp; done) | (go_simp; with_reducible rfl)
  try simp only [Act.put]
  try simp only [List.setIfInBounds_toArray]
  try simp only [List.set_cons_succ]
  try simp only [List.set_cons_zero]
  refine wpAnyH_take (i := 9) (v := ?_) (at_list rfl) (by kernel_rfl) (by kernel_rfl) (by kernel_rfl) (fun _ _ _ h => h) (Or.inl ⟨by rfl, ?_⟩) (by assumption) ?_
  rotate_left
  · intro w hSw; (try dsimp only at hSw); first | (go_simp; done) | (go_simp; with_reducible rfl)
  try simp only [Act.put]
  try simp only [List.setIfInBounds_toArray]
  try simp only [List.set_cons_succ]
  try simp only [List.set_cons_zero]
  refine wpAnyH_take (i := 12) (v := ?_) (at_list rfl) (by kernel_rfl) (by kernel_rfl) (by kernel_rfl) (fun _ _ _ h => h) (Or.inl ⟨by rfl, ?_⟩) (by assumption) ?_
  rotate_left
  · intro w hSw; (try dsimp only at hSw); first | (go_simp; done) | (go_simp; with_reducible rfl)
  try simp only [Act.put]
  try simp only [List.setIfInBounds_toArray]
  try simp only [List.set_cons_succ]
  try simp only [List.set_cons_zero]
  refine wpAnyH_take (i := 4) (v := ?_) (at_list rfl) (by kernel_rfl) (by kernel_rfl) (by kernel_rfl) (fun _ _ _ h => h) (Or.inl ⟨by rfl, ?_⟩) (by assumption) ?_
  rotate_left
  · intro w hSw; (try dsimp only at hSw); first | (go_simp; done) | (go_simp; with_reducible rfl)
  try simp only [Act.put]
  try simp only [List.setIfInBounds_toArray]
  try simp only [List.set_cons_succ]
  try simp only [List.set_cons_zero]
  refine wpAnyH_take (i := 7) (v := ?_) (at_list rfl) (by kernel_rfl) (by kernel_rfl) (by kernel_rfl) (fun _ _ _ h => h) (Or.inl ⟨by rfl, ?_⟩) (by assumption) ?_
  rotate_left
  · intro w hSw; (try dsimp only at hSw); first | (go_simp; done) | (go_simp; with_reducible rfl)
  try simp only [Act.put]
  try simp only [List.setIfInBounds_toArray]
  try simp only [List.set_cons_succ]
  try simp only [List.set_cons_zero]
  refine wpAnyH_take (i := 10) (v := ?_) (at_list rfl) (by kernel_rfl) (by kernel_rfl) (by kernel_rfl) (fun _ _ _ h => h) (Or.inl ⟨by rfl, ?_⟩) (by assumption) ?_
  rotate_left
  · intro w hSw; (try dsimp only at hSw); first | (go_simp; done) | (go_simp; with_reducible rfl)
  try simp only [Act.put]
  try simp only [List.setIfInBounds_toArray]
  try simp only [List.set_cons_succ]
  try simp only [List.set_cons_zero]
  refine wpAnyH_take (i := 13) (v := ?_) (at_list rfl) (by kernel_rfl) (by kernel_rfl) (by kernel_rfl) (fun _ _ _ h => h) (Or.inl ⟨by rfl, ?_⟩) (by assumption) ?_
  rotate_left
  · intro w hSw; (try dsimp only at hSw); first | (go_simp; done) | (go_simp; with_reducible rfl)
  try simp only [Act.put]
  try simp only [List.setIfInBounds_toArray]
  try simp only [List.set_cons_succ]
  try simp only [List.set_cons_zero]
  refine wpAnyH_take (i := 14) (v := ?_) (at_list rfl) (by kernel_rfl) (by kernel_rfl) (by kernel_rfl) (fun _ _ _ h => h) (Or.inl ⟨by rfl, ?_⟩) (by assumption) ?_
  rotate_left
  · intro w hSw; (try dsimp only at hSw); first | (go_simp; done) | (go_simp; with_reducible rfl)
  try simp only [Act.put]
  try simp only [List.setIfInBounds_toArray]
  try simp only [List.set_cons_succ]
  try simp only [List.set_cons_zero]
  refine wpAnyH_ready (rs := [15]) (by kernel_rfl) (by simp) ?_
  refine AllReadyH.cons (at_list rfl) (fun K hK => ?_) AllReadyH.nil
  go_simp
  refine hK.out _ _ (trivial) (fun hHeld => ?_)
  clear hK K
  try simp only [Act.put]
  try simp only [List.setIfInBounds_toArray]
  try simp only [List.set_cons_succ]
  try simp only [List.set_cons_zero]
  refine wpAnyH_done (by kernel_rfl) ?_ _
  refine NoPanic.normal ?_
  go_wp2
  rw [← bt_of (show 0 < t.size by omega), ← bt_of (show 1 < t.size by omega), ← bt_of (show 2 < t.size by omega), ← bt_of (show 3 < t.size by omega), ← bt_of (show 4 < t.size by omega)]
  exact bodyPost_ret (v := .agg #[.int .u8 t[0].toNat, .int .i64 t[1].toNat, .int .i64 t[2].toNat, .int .i64 t[3].toNat, .int .i64 t[4].toNat]) (by simp [results, Try.results78, go_sem]) rfl ⟨rfl, ((Below.refl _ _).alloc (Nat.le_refl _) _).drew⟩

set_option maxHeartbeats 2000000 in
theorem isInstruction_any (op r b k n left : Int) (w : World) (hb : (⟨op, r, b, k, n⟩ : Ins).Byt) :
    Calls Try.prog 79 #[.agg #[.int .u8 op, .int .i64 r, .int .i64 b, .int .i64 k, .int .i64 n], .int .i64 left] w
      fun e w' => e = .returned (.bool (knownB ⟨op, r, b, k, n⟩ left)) ∧ Below w.heap.size w w' := by
  obtain ⟨o0, o1, r0, r1, b0, b1, k0, k1, n0, n1⟩ := hb
  simp only at o0 o1 r0 r1 b0 b1 k0 k1 n0 n1
  by_cases h65 : op = 65
  · subst h65
    go_enter Try.func79, Try.ntmps79
    go_wp2
    all_goals (go_ret; exact ⟨ret_bool (by rw [Bool.eq_iff_iff]; simp [knownB]; try omega), (Below.refl _ _).alloc (Nat.le_refl _) _⟩)
  by_cases h71 : op = 71
  · subst h71
    go_enter Try.func79, Try.ntmps79
    go_wp2
    all_goals (go_ret; exact ⟨ret_bool (by rw [Bool.eq_iff_iff]; simp [knownB]; try omega), (Below.refl _ _).alloc (Nat.le_refl _) _⟩)
  by_cases h80 : op = 80
  · subst h80
    go_enter Try.func79, Try.ntmps79
    go_wp2
    all_goals (go_ret; exact ⟨ret_bool (by rw [Bool.eq_iff_iff]; simp [knownB]; try omega), (Below.refl _ _).alloc (Nat.le_refl _) _⟩)
  by_cases h88 : op = 88
  · subst h88
    go_enter Try.func79, Try.ntmps79
    go_wp2
    all_goals (go_ret; exact ⟨ret_bool (by rw [Bool.eq_iff_iff]; simp [knownB]; try omega), (Below.refl _ _).alloc (Nat.le_refl _) _⟩)
  by_cases h82 : op = 82
  · subst h82
    go_enter Try.func79, Try.ntmps79
    go_wp2
    all_goals (go_ret; exact ⟨ret_bool (by rw [Bool.eq_iff_iff]; simp [knownB]; try omega), (Below.refl _ _).alloc (Nat.le_refl _) _⟩)
  by_cases h74 : op = 74
  · subst h74
    go_enter Try.func79, Try.ntmps79
    go_wp2
    all_goals (go_ret; exact ⟨ret_bool (by rw [Bool.eq_iff_iff]; simp [knownB]; try omega), (Below.refl _ _).alloc (Nat.le_refl _) _⟩)
  · have e65 : (op == 65) = false := by simpa using h65
    have e71 : (op == 71) = false := by simpa using h71
    have e80 : (op == 80) = false := by simpa using h80
    have e88 : (op == 88) = false := by simpa using h88
    have e82 : (op == 82) = false := by simpa using h82
    have e74 : (op == 74) = false := by simpa using h74
    have HK := hide (show knownB ⟨op, r, b, k, n⟩ left = false by
      simp only [knownB]
      split
      · rfl
      · split
        · rfl
        · simp [h65, h71, h80])
    have n65 : (op != 65) = true := by simpa using h65
    clear h65 h71 h80 h88 h82 h74
    go_enter Try.func79, Try.ntmps79
    go_wp2
    all_goals (go_ret; exact ⟨ret_bool (by rw [unhide HK]), (Below.refl _ _).alloc (Nat.le_refl _) _⟩)

end Go.Proofs.Ytljodhcfimklkaa

namespace Go.Proofs.Ytljodhcfimklkaa
open Go.RowKit

theorem bt_tail (s : ByteArray) (i k : Nat) (h : i + k < s.size) : bt (s.extract i s.size) k = bt s (i + k) := by
  have h1 : k < (s.extract i s.size).size := by rw [ByteArray.size_extract]; omega
  rw [bt, dif_pos h1, bt, dif_pos h]
  have : (s.extract i s.size)[k] = s[i + k] := by simp [ByteArray.getElem_extract]
  rw [this]

set_option maxRecDepth 100000 in
set_option maxHeartbeats 1000000 in
theorem rAt_any (s : ByteArray) (i : Nat) (w : World) (h : 5 * i + 5 ≤ s.size) (hs : s.size ≤ 480) :
    Calls Try.prog 54 #[.string s, .int .i64 i] w fun e w' =>
      e = .returned (.agg #[.int .u8 (insAt s i).op, .int .i64 (insAt s i).r, .int .i64 (insAt s i).b, .int .i64 (insAt s i).k, .int .i64 (insAt s i).n]) ∧ Below w.heap.size w w' := by
  obtain ⟨t, HT⟩ : ∃ t, Hid (t = s.extract (i * 5) s.size) := ⟨_, hide rfl⟩
  have hts : t.size = s.size - i * 5 := by rw [unhide HT, ByteArray.size_extract]; omega
  have q0 : 0 < t.size := by omega
  have q1 : 1 < t.size := by omega
  have q2 : 2 < t.size := by omega
  have q3 : 3 < t.size := by omega
  have q4 : 4 < t.size := by omega
  have i0 : (0 : Int) < (t.size : Int) := by omega
  have i1 : (1 : Int) < (t.size : Int) := by omega
  have i2 : (2 : Int) < (t.size : Int) := by omega
  have i3 : (3 : Int) < (t.size : Int) := by omega
  have i4 : (4 : Int) < (t.size : Int) := by omega
  have HB := hide (show (t[0].toNat : Int) = (insAt s i).op ∧ (t[1].toNat : Int) = (insAt s i).r ∧ (t[2].toNat : Int) = (insAt s i).b ∧ (t[3].toNat : Int) = (insAt s i).k ∧ (t[4].toNat : Int) = (insAt s i).n by
    rw [bt_of q0, bt_of q1, bt_of q2, bt_of q3, bt_of q4, unhide HT, bt_tail _ _ _ (by omega), bt_tail _ _ _ (by omega), bt_tail _ _ _ (by omega), bt_tail _ _ _ (by omega), bt_tail _ _ _ (by omega), Nat.mul_comm i 5]
    exact ⟨rfl, rfl, rfl, rfl, rfl⟩)
  have w1 : IntKind.i64.wrap (t[1].toNat : Int) = (t[1].toNat : Int) := by have := (t[1]).toNat_lt; rw [IntKind.wrap_i64]; omega
  have w2 : IntKind.i64.wrap (t[2].toNat : Int) = (t[2].toNat : Int) := by have := (t[2]).toNat_lt; rw [IntKind.wrap_i64]; omega
  have w3 : IntKind.i64.wrap (t[3].toNat : Int) = (t[3].toNat : Int) := by have := (t[3]).toNat_lt; rw [IntKind.wrap_i64]; omega
  have w4 : IntKind.i64.wrap (t[4].toNat : Int) = (t[4].toNat : Int) := by have := (t[4]).toNat_lt; rw [IntKind.wrap_i64]; omega
  have hle : (i : Int) * 5 ≤ (s.size : Int) := by omega
  clear hts
  go_enter Try.func54, Try.ntmps54
  go_wp2
  rw [← unhide HT]
  refine wp_region_noPanic ?_
  refine wp_region_held_drew (S := fun _ => True) (by kernel_rfl) trivial (fun hHeld => ?_)
  refine wpAnyH_take (i := 0) (v := ?_) (at_list rfl) (by kernel_rfl) (by kernel_rfl) (by kernel_rfl) (fun _ _ _ h => h) (Or.inl ⟨by rfl, ?_⟩) (by assumption) ?_
  rotate_left
  · intro w hSw; (try dsimp only at hSw); first | (go_simp; done) | (go_simp; with_reducible rfl)
  try simp only [Act.put]
  try simp only [List.setIfInBounds_toArray]
  try simp only [List.set_cons_succ]
  try simp only [List.set_cons_zero]
  refine wpAnyH_take (i := 2) (v := ?_) (at_list rfl) (by kernel_rfl) (by kernel_rfl) (by kernel_rfl) (fun _ _ _ h => h) (Or.inl ⟨by rfl, ?_⟩) (by assumption) ?_
  rotate_left
  · intro w hSw; (try dsimp only at hSw); first | (go_simp; done) | (go_simp; with_reducible rfl)
  try simp only [Act.put]
  try simp only [List.setIfInBounds_toArray]
  try simp only [List.set_cons_succ]
  try simp only [List.set_cons_zero]
  refine wpAnyH_take (i := 5) (v := ?_) (at_list rfl) (by kernel_rfl) (by kernel_rfl) (by kernel_rfl) (fun _ _ _ h => h) (Or.inl ⟨by rfl, ?_⟩) (by assumption) ?_
  rotate_left
  · intro w hSw; (try dsimp only at hSw); first | (go_simp; done) | (go_simp; with_reducible rfl)
  try simp only [Act.put]
  try simp only [List.setIfInBounds_toArray]
  try simp only [List.set_cons_succ]
  try simp only [List.set_cons_zero]
  refine wpAnyH_take (i := 8) (v := ?_) (at_list rfl) (by kernel_rfl) (by kernel_rfl) (by kernel_rfl) (fun _ _ _ h => h) (Or.inl ⟨by rfl, ?_⟩) (by assumption) ?_
  rotate_left
  · intro w hSw; (try dsimp only at hSw); first | (go_simp; done) | (go_simp; with_reducible rfl)
  try simp only [Act.put]
  try simp only [List.setIfInBounds_toArray]
  try simp only [List.set_cons_succ]
  try simp only [List.set_cons_zero]
  refine wpAnyH_take (i := 11) (v := ?_) (at_list rfl) (by kernel_rfl) (by kernel_rfl) (by kernel_rfl) (fun _ _ _ h => h) (Or.inl ⟨by rfl, ?_⟩) (by assumption) ?_
  rotate_left
  · intro w hSw; (try dsimp only at hSw); first | (go_simp; done) | (go_simp; with_reducible rfl)
  try simp only [Act.put]
  try simp only [List.setIfInBounds_toArray]
  try simp only [List.set_cons_succ]
  try simp only [List.set_cons_zero]
  refine wpAnyH_take (i := 1) (v := ?_) (at_list rfl) (by kernel_rfl) (by kernel_rfl) (by kernel_rfl) (fun _ _ _ h => h) (Or.inl ⟨by rfl, ?_⟩) (by assumption) ?_
  rotate_left
  · intro w hSw; (try dsimp only at hSw); first | (go_simp; done) | (go_simp; with_reducible rfl)
  try simp only [Act.put]
  try simp only [List.setIfInBounds_toArray]
  try simp only [List.set_cons_succ]
  try simp only [List.set_cons_zero]
  refine wpAnyH_take (i := 3) (v := ?_) (at_list rfl) (by kernel_rfl) (by kernel_rfl) (by kernel_rfl) (fun _ _ _ h => h) (Or.inl ⟨by rfl, ?_⟩) (by assumption) ?_
  rotate_left
  · intro w hSw; (try dsimp only at hSw); first | (go_simp; done) | (go_simp; with_reducible rfl)
  try simp only [Act.put]
  try simp only [List.setIfInBounds_toArray]
  try simp only [List.set_cons_succ]
  try simp only [List.set_cons_zero]
  refine wpAnyH_take (i := 6) (v := ?_) (at_list rfl) (by kernel_rfl) (by kernel_rfl) (by kernel_rfl) (fun _ _ _ h => h) (Or.inl ⟨by rfl, ?_⟩) (by assumption) ?_
  rotate_left
  · intro w hSw; (try dsimp only at hSw); first | (go_simp; done) | (go_simp; with_reducible rfl)
  try simp only [Act.put]
  try simp only [List.setIfInBounds_toArray]
  try simp only [List.set_cons_succ]
  try simp only [List.set_cons_zero]
  refine wpAnyH_take (i := 9) (v := ?_) (at_list rfl) (by kernel_rfl) (by kernel_rfl) (by kernel_rfl) (fun _ _ _ h => h) (Or.inl ⟨by rfl, ?_⟩) (by assumption) ?_
  rotate_left
  · intro w hSw; (try dsimp only at hSw); first | (go_simp; done) | (go_simp; with_reducible rfl)
  try simp only [Act.put]
  try simp only [List.setIfInBounds_toArray]
  try simp only [List.set_cons_succ]
  try simp only [List.set_cons_zero]
  refine wpAnyH_take (i := 12) (v := ?_) (at_list rfl) (by kernel_rfl) (by kernel_rfl) (by kernel_rfl) (fun _ _ _ h => h) (Or.inl ⟨by rfl, ?_⟩) (by assumption) ?_
  rotate_left
  · intro w hSw; (try dsimp only at hSw); first | (go_simp; done) | (go_simp; with_reducible rfl)
  try simp only [Act.put]
  try simp only [List.setIfInBounds_toArray]
  try simp only [List.set_cons_succ]
  try simp only [List.set_cons_zero]
  refine wpAnyH_take (i := 4) (v := ?_) (at_list rfl) (by kernel_rfl) (by kernel_rfl) (by kernel_rfl) (fun _ _ _ h => h) (Or.inl ⟨by rfl, ?_⟩) (by assumption) ?_
  rotate_left
  · intro w hSw; (try dsimp only at hSw); first | (go_simp; done) | (go_simp; with_reducible rfl)
  try simp only [Act.put]
  try simp only [List.setIfInBounds_toArray]
  try simp only [List.set_cons_succ]
  try simp only [List.set_cons_zero]
  refine wpAnyH_take (i := 7) (v := ?_) (at_list rfl) (by kernel_rfl) (by kernel_rfl) (by kernel_rfl) (fun _ _ _ h => h) (Or.inl ⟨by rfl, ?_⟩) (by assumption) ?_
  rotate_left
  · intro w hSw; (try dsimp only at hSw); first | (go_simp; done) | (go_simp; with_reducible rfl)
  try simp only [Act.put]
  try simp only [List.setIfInBounds_toArray]
  try simp only [List.set_cons_succ]
  try simp only [List.set_cons_zero]
  refine wpAnyH_take (i := 10) (v := ?_) (at_list rfl) (by kernel_rfl) (by kernel_rfl) (by kernel_rfl) (fun _ _ _ h => h) (Or.inl ⟨by rfl, ?_⟩) (by assumption) ?_
  rotate_left
  · intro w hSw; (try dsimp only at hSw); first | (go_simp; done) | (go_simp; with_reducible rfl)
  try simp only [Act.put]
  try simp only [List.setIfInBounds_toArray]
  try simp only [List.set_cons_succ]
  try simp only [List.set_cons_zero]
  refine wpAnyH_take (i := 13) (v := ?_) (at_list rfl) (by kernel_rfl) (by kernel_rfl) (by kernel_rfl) (fun _ _ _ h => h) (Or.inl ⟨by rfl, ?_⟩) (by assumption) ?_
  rotate_left
  · intro w hSw; (try dsimp only at hSw); first | (go_simp; done) | (go_simp; with_reducible rfl)
  try simp only [Act.put]
  try simp only [List.setIfInBounds_toArray]
  try simp only [List.set_cons_succ]
  try simp only [List.set_cons_zero]
  refine wpAnyH_take (i := 14) (v := ?_) (at_list rfl) (by kernel_rfl) (by kernel_rfl) (by kernel_rfl) (fun _ _ _ h => h) (Or.inl ⟨by rfl, ?_⟩) (by assumption) ?_
  rotate_left
  · intro w hSw; (try dsimp only at hSw); first | (go_simp; done) | (go_simp; with_reducible rfl)
  try simp only [Act.put]
  try simp only [List.setIfInBounds_toArray]
  try simp only [List.set_cons_succ]
  try simp only [List.set_cons_zero]
  refine wpAnyH_ready (rs := [15]) (by kernel_rfl) (by simp) ?_
  refine AllReadyH.cons (at_list rfl) (fun K hK => ?_) AllReadyH.nil
  go_simp
  refine hK.out _ _ (trivial) (fun hHeld => ?_)
  clear hK K
  try simp only [Act.put]
  try simp only [List.setIfInBounds_toArray]
  try simp only [List.set_cons_succ]
  try simp only [List.set_cons_zero]
  refine wpAnyH_done (by kernel_rfl) ?_ _
  refine NoPanic.normal ?_
  go_wp2
  rw [← (unhide HB).1, ← (unhide HB).2.1, ← (unhide HB).2.2.1, ← (unhide HB).2.2.2.1, ← (unhide HB).2.2.2.2]
  exact bodyPost_ret (v := .agg #[.int .u8 t[0].toNat, .int .i64 t[1].toNat, .int .i64 t[2].toNat, .int .i64 t[3].toNat, .int .i64 t[4].toNat]) (by simp [results, Try.results54, go_sem]) rfl ⟨rfl, ((Below.refl _ _).alloc (Nat.le_refl _) _).drew⟩

theorem mod_split (a m : Int) (hm : 0 < m) : a % m = if a.tmod m < 0 then a.tmod m + m else a.tmod m := by
  have h1 : a % m = a.tmod m % m := by
    have := Int.tmod_add_mul_tdiv a m
    conv => lhs; rw [← this]
    rw [Int.add_mul_emod_self_left]
  have h2 : a.tmod m < m := Int.tmod_lt_of_pos a hm
  have h3 : -m < a.tmod m := by
    have := Int.tmod_lt_of_pos (-a) hm
    rw [Int.neg_tmod] at this; omega
  rw [h1]
  split
  · rw [← Int.add_emod_right, Int.emod_eq_of_lt (by omega) (by omega)]
  · rw [Int.emod_eq_of_lt (by omega) h2]

set_option maxHeartbeats 400000 in
theorem mod_any (a m : Int) (w : World) (hm : 0 < m) (hl : m ≤ 4294967296) :
    Calls Try.prog 85 #[.int .i64 a, .int .i64 m] w fun e w' => e = .returned (.int .i64 (a % m)) ∧ w = w' := by
  have HS := hide (mod_split a m hm)
  have h2 : a.tmod m < m := Int.tmod_lt_of_pos a hm
  have h3 : -m < a.tmod m := by
    have := Int.tmod_lt_of_pos (-a) hm
    rw [Int.neg_tmod] at this; omega
  have hw : IntKind.i64.wrap (a.tmod m) = a.tmod m := by rw [IntKind.wrap_i64]; omega
  have hne : (m == 0) = false := by rw [beq_eq_false_iff_ne]; omega
  have hnz : ¬ m = 0 := by omega
  by_cases hneg : a.tmod m < 0
  · have HR := hide (show a % m = a.tmod m + m by rw [unhide HS, if_pos hneg])
    go_enter Try.func85, Try.ntmps85
    go_wp2
    go_ret
    exact ⟨ret_int (by rw [unhide HR]), rfl⟩
  · have HR := hide (show a % m = a.tmod m by rw [unhide HS, if_neg hneg])
    go_enter Try.func85, Try.ntmps85
    go_wp2
    go_ret
    exact ⟨ret_int (by rw [unhide HR]), rfl⟩

set_option maxHeartbeats 2000000 in
theorem known_any (op r b k n left : Int) (w : World) (hb : (⟨op, r, b, k, n⟩ : Ins).Byt) (hk : knownB ⟨op, r, b, k, n⟩ left = true) :
    Calls Try.prog 55 #[.agg #[.int .u8 op, .int .i64 r, .int .i64 b, .int .i64 k, .int .i64 n], .int .i64 left] w
      fun e w' => e = .returned (.bool true) ∧ Below w.heap.size w w' := by
  obtain ⟨o0, o1, r0, r1, b0, b1, k0, k1, n0, n1⟩ := hb
  simp only at o0 o1 r0 r1 b0 b1 k0 k1 n0 n1
  obtain ⟨h1, h2, h3⟩ := known_all hk
  simp only at h1 h2 h3
  clear hk
  rcases h3 with ⟨ho, h3, h4, h5⟩ | ⟨rfl, h3⟩ | ⟨rfl, h3, h4⟩ | ⟨rfl, h3⟩ | rfl
  · have hn : 1 ≤ n := by omega
    clear h2
    rcases ho with rfl | rfl
    · go_enter Try.func55, Try.ntmps55
      go_wp2
      all_goals (go_ret; exact ⟨rfl, (Below.refl _ _).alloc (Nat.le_refl _) _⟩)
    · go_enter Try.func55, Try.ntmps55
      go_wp2
      all_goals (go_ret; exact ⟨rfl, (Below.refl _ _).alloc (Nat.le_refl _) _⟩)
  · have hn : 1 ≤ n := by omega
    clear h2
    go_enter Try.func55, Try.ntmps55
    go_wp2
    all_goals (go_ret; exact ⟨rfl, (Below.refl _ _).alloc (Nat.le_refl _) _⟩)
  · have hn : 1 ≤ n := by omega
    clear h2
    go_enter Try.func55, Try.ntmps55
    go_wp2
    all_goals (go_ret; exact ⟨rfl, (Below.refl _ _).alloc (Nat.le_refl _) _⟩)
  · have hn : 1 ≤ n := by omega
    clear h2
    go_enter Try.func55, Try.ntmps55
    go_wp2
    all_goals (go_ret; exact ⟨rfl, (Below.refl _ _).alloc (Nat.le_refl _) _⟩)
  · clear h2
    go_enter Try.func55, Try.ntmps55
    go_wp2
    all_goals (go_ret; exact ⟨rfl, (Below.refl _ _).alloc (Nat.le_refl _) _⟩)

end Go.Proofs.Ytljodhcfimklkaa

namespace Go.Proofs.Ytljodhcfimklkaa
open Go.RowKit

theorem andNot_u64_nat (a b : Nat) (ha : a < 18446744073709551616) :
    ∃ c : Nat, bits BinOp.andNot IntKind.u64 (a : Int) (b : Int) = (c : Int) ∧ c < 18446744073709551616 ∧ ∀ i, c.testBit i = (a.testBit i && !b.testBit i) := by
  refine ⟨(BitVec.ofNat 64 a &&& ~~~ BitVec.ofNat 64 b).toNat, ?_, (BitVec.ofNat 64 a &&& ~~~ BitVec.ofNat 64 b).isLt, fun i => ?_⟩
  · show IntKind.u64.wrap ((BitVec.ofInt 64 (a : Int) &&& ~~~ BitVec.ofInt 64 (b : Int)).toNat : Int) = _
    rw [BitVec.ofInt_natCast, BitVec.ofInt_natCast, IntKind.wrap_u64]
    have := (BitVec.ofNat 64 a &&& ~~~ BitVec.ofNat 64 b).isLt
    omega
  · rw [BitVec.testBit_toNat, BitVec.getLsbD_and, BitVec.getLsbD_not, BitVec.getLsbD_ofNat, BitVec.getLsbD_ofNat]
    by_cases h : i < 64
    · simp [h]
    · have : a.testBit i = false := Nat.testBit_lt_two_pow (Nat.lt_of_lt_of_le ha (by
        rw [show (18446744073709551616 : Nat) = 2 ^ 64 from rfl]; exact Nat.pow_le_pow_right (by omega) (by omega)))
      simp [h, this]
theorem ones_lt {b n x : Nat} (h : b + n ≤ 64) (hx : x < 2 ^ n) : x * 2 ^ b < 18446744073709551616 := by
  rw [show (18446744073709551616 : Nat) = 2 ^ 64 from rfl]
  refine Nat.lt_of_lt_of_le (Nat.mul_lt_mul_of_pos_right hx (Nat.two_pow_pos b)) ?_
  rw [← Nat.pow_add]; exact Nat.pow_le_pow_right (by omega) (by omega)
theorem test_mul (x b i : Nat) : (x * 2 ^ b).testBit i = (decide (b ≤ i) && x.testBit (i - b)) := by
  rw [← Nat.shiftLeft_eq, Nat.testBit_shiftLeft]

theorem putTo_bits {N X b k n : Nat} (hN : N < 18446744073709551616) (hbn : b + n ≤ 64) :
    bits BinOp.or IntKind.u64 (bits BinOp.andNot IntKind.u64 (N : Int) (((2 ^ n - 1) * 2 ^ b : Nat) : Int)) (((X / 2 ^ k % 2 ^ n) * 2 ^ b : Nat) : Int) = ((putTo N X b k n : Nat) : Int) := by
  obtain ⟨c, hc, hl, ht⟩ := andNot_u64_nat N ((2 ^ n - 1) * 2 ^ b) hN
  rw [hc, bits_or_u64_nat _ _ hl (ones_lt hbn (Nat.mod_lt _ (Nat.two_pow_pos n)))]
  congr 1
  apply Nat.eq_of_testBit_eq
  intro i
  rw [Nat.testBit_or, ht, test_mul, test_mul, putTo_test, Nat.testBit_two_pow_sub_one, Nat.testBit_mod_two_pow, Nat.testBit_div_two_pow]
  by_cases h : b ≤ i ∧ i < b + n
  · have h1 : b ≤ i := h.1
    have h2 : i - b < n := by omega
    rw [if_pos h]
    simp [h1, h2, Nat.add_comm]
  · rw [if_neg h]
    by_cases h1 : b ≤ i
    · have h2 : ¬ i - b < n := by omega
      simp [h1, h2]
    · simp [h1]

/-- Only so many bits of what is laid count. -/
theorem putTo_congr {N X Y b k n : Nat} (h : ∀ j, j < k + n → X.testBit j = Y.testBit j) : putTo N X b k n = putTo N Y b k n := by
  induction n with
  | zero => rfl
  | succ n ih => rw [putTo, putTo, ih (fun j hj => h j (by omega)), h (k + n) (by omega)]

/-- What a register is as a uint64. -/
def wide (v : Int) : Nat := (v % 18446744073709551616).toNat
theorem wide_lt (v : Int) : wide v < 18446744073709551616 := by unfold wide; omega
theorem wide_wrap (v : Int) : IntKind.u64.wrap v = (wide v : Int) := by rw [IntKind.wrap_u64, wide]; omega
theorem low_wide (v : Int) : low v = wide v % 2 ^ 32 := by
  have e : (2 : Nat) ^ 32 = 4294967296 := rfl
  rw [e]; unfold low wide; omega
theorem wide_test (v : Int) (j : Nat) (h : j < 32) : (wide v).testBit j = (low v).testBit j := by
  rw [low_wide, Nat.testBit_mod_two_pow]; simp [h]
theorem and_ones (x n : Nat) (hx : x < 18446744073709551616) (hn : n ≤ 64) : bits BinOp.and IntKind.u64 (x : Int) ((2 ^ n - 1 : Nat) : Int) = ((x % 2 ^ n : Nat) : Int) := by
  have h1 : 2 ^ n ≤ 2 ^ 64 := Nat.pow_le_pow_right (by omega) hn
  have e : (2 : Nat) ^ 64 = 18446744073709551616 := rfl
  have h2 : 0 < 2 ^ n := Nat.two_pow_pos n
  rw [bits_and_u64_nat _ _ hx (by omega), Nat.and_two_pow_sub_one_eq_mod]

theorem nat_shift {x b n : Nat} (h : b + n ≤ 64) (hx : x < 2 ^ n) : IntKind.u64.wrap ((x : Int) * 2 ^ b) = ((x * 2 ^ b : Nat) : Int) := by
  have := ones_lt h hx
  have e : ((x : Int) * 2 ^ b) = ((x * 2 ^ b : Nat) : Int) := by simp
  rw [e, IntKind.wrap_u64]
  generalize x * 2 ^ b = y at *
  omega
theorem ones_wrap (n : Nat) (h : n ≤ 63) : IntKind.u64.wrap (IntKind.u64.wrap ((2 : Int) ^ n) - 1) = ((2 ^ n - 1 : Nat) : Int) := by
  have h1 : 2 ^ n ≤ 2 ^ 63 := Nat.pow_le_pow_right (by omega) h
  have e : (2 : Nat) ^ 63 = 9223372036854775808 := rfl
  have h2 : 0 < 2 ^ n := Nat.two_pow_pos n
  have e2 : ((2 : Int) ^ n) = ((2 ^ n : Nat) : Int) := by simp
  rw [e2, IntKind.wrap_u64, IntKind.wrap_u64]
  omega
theorem ones_lt2 (n : Nat) : 2 ^ n - 1 < 2 ^ n := by have : 0 < 2 ^ n := Nat.two_pow_pos n; omega

theorem put_final {N b k n : Nat} (v : Int) (hN : N < 18446744073709551616) (hbn : b + n ≤ 64) (hn : n ≤ 63) (hk : k + n ≤ 32) :
    bits BinOp.or IntKind.u64 (bits BinOp.andNot IntKind.u64 (N : Int) (IntKind.u64.wrap (IntKind.u64.wrap (IntKind.u64.wrap (2 ^ n) - 1) * 2 ^ b)))
      (IntKind.u64.wrap (bits BinOp.and IntKind.u64 (IntKind.u64.wrap v / 2 ^ k) (IntKind.u64.wrap (IntKind.u64.wrap (2 ^ n) - 1)) * 2 ^ b)) = (putTo N (low v) b k n : Nat) := by
  have hle : wide v / 2 ^ k ≤ wide v := Nat.div_le_self _ _
  have hw := wide_lt v
  have e : ((wide v : Int) / 2 ^ k) = ((wide v / 2 ^ k : Nat) : Int) := by simp
  rw [ones_wrap n hn, wide_wrap v, e, and_ones _ _ (by omega) (by omega), nat_shift hbn (ones_lt2 n), nat_shift hbn (Nat.mod_lt _ (Nat.two_pow_pos n)), putTo_bits hN hbn,
    putTo_congr (fun j hj => wide_test v j (by omega))]
theorem get_final {N b k n : Nat} (v : Int) (hN : N < 18446744073709551616) (hkn : k + n ≤ 32) :
    wrap64 (bits BinOp.or IntKind.u64 (bits BinOp.andNot IntKind.u64 (bits BinOp.and IntKind.u64 (IntKind.u64.wrap v) 4294967295) (IntKind.u64.wrap (IntKind.u64.wrap (IntKind.u64.wrap (2 ^ n) - 1) * 2 ^ k)))
      (IntKind.u64.wrap (bits BinOp.and IntKind.u64 ((N : Int) / 2 ^ b) (IntKind.u64.wrap (IntKind.u64.wrap (2 ^ n) - 1)) * 2 ^ k))) = (putTo (low v) N k b n : Nat) := by
  have hle : N / 2 ^ b ≤ N := Nat.div_le_self _ _
  have hw := wide_lt v
  have hlw := low_lt v
  have e : ((N : Int) / 2 ^ b) = ((N / 2 ^ b : Nat) : Int) := by simp
  have e32 : (4294967295 : Int) = ((2 ^ 32 - 1 : Nat) : Int) := rfl
  have p32 : (2 : Nat) ^ 32 = 4294967296 := rfl
  rw [ones_wrap n (by omega), wide_wrap v, e32, and_ones _ 32 hw (by omega), ← low_wide, e, and_ones _ _ (by omega) (by omega), nat_shift (n := n) (by omega) (ones_lt2 n), nat_shift (n := n) (by omega) (Nat.mod_lt _ (Nat.two_pow_pos n)), putTo_bits (by omega) (by omega)]
  have := putTo_lt (m := 32) N k b n (N := low v) (by omega) (by omega)
  simp only [wrap64]
  omega

end Go.Proofs.Ytljodhcfimklkaa

namespace Go.Proofs.Ytljodhcfimklkaa
open Go.RowKit

set_option maxHeartbeats 1000000 in
theorem putBits_any (N : Nat) (v op r b k n : Int) (w : World) (hN : N < 18446744073709551616) (b0 : 0 ≤ b) (b1 : b ≤ 63) (n1 : 1 ≤ n) (h8 : b % 8 + n ≤ 8) (k0 : 0 ≤ k) (h32 : k + n ≤ 32) :
    Calls Try.prog 81 #[.int .u64 N, .int .i64 v, .agg #[.int .u8 op, .int .i64 r, .int .i64 b, .int .i64 k, .int .i64 n]] w
      fun e w' => e = .returned (.int .u64 (putTo N (low v) b.toNat k.toNat n.toNat : Nat)) ∧ Below w.heap.size w w' := by
  go_enter Try.func81, Try.ntmps81
  go_wp2
  go_ret
  refine ⟨ret_u64 ?_, ?_⟩
  · exact put_final v hN (by omega) (by omega) (by omega)
  · exact (Below.refl _ _).alloc (Nat.le_refl _) _

set_option maxHeartbeats 1000000 in
theorem getBits_any (N : Nat) (v op r b k n : Int) (w : World) (hN : N < 18446744073709551616) (b0 : 0 ≤ b) (b1 : b ≤ 63) (n1 : 1 ≤ n) (k0 : 0 ≤ k) (h32 : k + n ≤ 32) :
    Calls Try.prog 80 #[.int .i64 v, .int .u64 N, .agg #[.int .u8 op, .int .i64 r, .int .i64 b, .int .i64 k, .int .i64 n]] w
      fun e w' => e = .returned (.int .i64 (putTo (low v) N k.toNat b.toNat n.toNat : Nat)) ∧ Below w.heap.size w w' := by
  go_enter Try.func80, Try.ntmps80
  go_wp2
  go_ret
  refine ⟨ret_int ?_, ?_⟩
  · exact get_final v hN (by omega)
  · exact (Below.refl _ _).alloc (Nat.le_refl _) _

end Go.Proofs.Ytljodhcfimklkaa

namespace Go.Proofs.Ytljodhcfimklkaa
open Go.RowKit

/-- The cells of an instruction in the program's row; what the slice value v reads as. -/
def Ins.cells (x : Ins) : List Value := [.int .u8 x.op, .int .i64 x.r, .int .i64 x.b, .int .i64 x.k, .int .i64 x.n]
def InsAt (w : World) (v : Value) (L : List Ins) : Prop := w.ownsRow 0 128 5 v L.length (L.flatMap Ins.cells)

/-- The program's machine, in its block. -/
def mcells (s : St) : List Value := [.int .i64 (s.reg 0), .int .i64 (s.reg 1), .int .i64 (s.reg 2), .int .i64 (s.reg 3), .int .i64 (s.reg 4), .int .i64 (s.reg 5), .int .i64 (s.reg 6), .int .i64 (s.reg 7),
  .bool (s.mark 0), .bool (s.mark 1), .bool (s.mark 2), .bool (s.mark 3), .bool (s.mark 4), .bool (s.mark 5), .bool (s.mark 6), .bool (s.mark 7), .int .u64 s.N]
def MachAt (w : World) (g : Nat) (s : St) : Prop := w.ownsRow g 101 17 (.slice (some ⟨g, 0, none⟩) 1 1) 1 (mcells s)

theorem eight {r : Nat} (h : r < 8) : r = 0 ∨ r = 1 ∨ r = 2 ∨ r = 3 ∨ r = 4 ∨ r = 5 ∨ r = 6 ∨ r = 7 := by omega
theorem MachAt.reg {w : World} {g : Nat} {s : St} (h : MachAt w g s) {r : Nat} (hr : r < 8) : w.cell? ⟨g, r, none⟩ = some (.int .i64 (s.reg r)) := by
  rw [World.ownsRow.cellAt h r (by omega)]
  rcases eight hr with rfl | rfl | rfl | rfl | rfl | rfl | rfl | rfl <;> rfl
theorem MachAt.mark {w : World} {g : Nat} {s : St} (h : MachAt w g s) {r : Nat} (hr : r < 8) : w.cell? ⟨g, 8 + r, none⟩ = some (.bool (s.mark r)) := by
  rw [World.ownsRow.cellAt h (8 + r) (by omega)]
  rcases eight hr with rfl | rfl | rfl | rfl | rfl | rfl | rfl | rfl <;> rfl
theorem MachAt.bits {w : World} {g : Nat} {s : St} (h : MachAt w g s) : w.cell? ⟨g, 16, none⟩ = some (.int .u64 s.N) := by
  rw [World.ownsRow.cellAt h 16 (by omega)]; rfl
theorem MachAt.free {w : World} {g : Nat} {s : St} (h : MachAt w g s) (j : Nat) : w.frozen? ⟨g, j, none⟩ = false := World.ownsRow.frozenAt h j
theorem MachAt.setReg {w : World} {g : Nat} {s : St} (h : MachAt w g s) {r : Nat} (hr : r < 8) (v : Int) : MachAt (w.setCell ⟨g, r, none⟩ (.int .i64 v)) g { s with reg := upd s.reg r v } := by
  have := (World.ownsRow.stored h r (.int .i64 v)).1
  unfold MachAt
  rcases eight hr with rfl | rfl | rfl | rfl | rfl | rfl | rfl | rfl <;> exact this
theorem MachAt.setMark {w : World} {g : Nat} {s : St} (h : MachAt w g s) {r : Nat} (hr : r < 8) : MachAt (w.setCell ⟨g, 8 + r, none⟩ (.bool true)) g { s with mark := upd s.mark r true } := by
  have := (World.ownsRow.stored h (8 + r) (.bool true)).1
  unfold MachAt
  rcases eight hr with rfl | rfl | rfl | rfl | rfl | rfl | rfl | rfl <;> exact this
theorem MachAt.setBits {w : World} {g : Nat} {s : St} (h : MachAt w g s) (M : Nat) : MachAt (w.setCell ⟨g, 16, none⟩ (.int .u64 M)) g { s with N := M } := by
  have := (World.ownsRow.stored h 16 (.int .u64 M)).1
  exact this
theorem MachAt.bel {w w' : World} {g : Nat} {s : St} (h : MachAt w g s) (hb : Below w.heap.size w w') : MachAt w' g s := ownsRow_bel h hb
theorem MachAt.lt {w : World} {g : Nat} {s : St} (h : MachAt w g s) : g < w.heap.size := (World.ownsRow.lt h g rfl).2

end Go.Proofs.Ytljodhcfimklkaa
