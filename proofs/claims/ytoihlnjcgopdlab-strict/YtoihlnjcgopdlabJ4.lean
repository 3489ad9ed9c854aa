import Derived.Test.YtoihlnjcgopdlabJ3
import Derived.Laws.Bits64b
namespace Go.Proofs.Ytoihlnjcgopdlab
open Go.RowKit

def held (s : Sg) (N : Nat) : Int := heldV s.st s.ln s.od s.kd N
/-- The multiplexor's value in a payload. -/
def choiceN (L : List Sg) (N : Nat) : Int := if 0 ≤ muxOf L then held (sgAt L (muxOf L).toNat) N else 0
def valN (L : List Sg) (N : Nat) (c : Int) (j : Nat) : Int := if activeB (sgAt L j).rl c then held (sgAt L j) N else 0
def signN (L : List Sg) (c : Int) (j : Nat) : Int := if activeB (sgAt L j).rl c then 43 else 45
def valsL (L : List Sg) (N : Nat) (c : Int) (k : Nat) : List Int := (List.range k).map (valN L N c)
def signsL (L : List Sg) (c : Int) (k : Nat) : List Int := (List.range k).map (signN L c)
theorem valsL_succ (L : List Sg) (N : Nat) (c : Int) (k : Nat) : valsL L N c (k + 1) = valsL L N c k ++ [valN L N c k] := by simp [valsL, List.range_succ]
theorem signsL_succ (L : List Sg) (c : Int) (k : Nat) : signsL L c (k + 1) = signsL L c k ++ [signN L c k] := by simp [signsL, List.range_succ]
theorem valsL_len (L : List Sg) (N : Nat) (c : Int) (k : Nat) : (valsL L N c k).length = k := by simp [valsL]

/-- A row that is the call's own, read as numbers, nil or not. -/
theorem IntsAt_row {w : World} {B : Nat} {v : Value} {Z : List Int} (h : w.ownsRow B 3 1 v Z.length (Z.map (Value.int .i64))) : IntsAt w v Z := by
  rcases h.2 with ⟨rfl, h0⟩ | ⟨g, cap, cur, rfl, _, hg, hnc, hcm, hcs, ht⟩
  · exact ⟨none, 0, by rw [h0], by omega, fun _ => h0, by simp⟩
  · exact IntsAt_own h

theorem ownsRow_grownB {w w' : World} {B e e' s : Nat} {v : Value} {n : Nat} {xs : List Value} {row : Option Nat} (h : w.ownsRow B e s v n xs) (hg : w.grownBy w' row)
    (hrow : ∀ k, row = some k → ∃ cur, w.heap[k]? = some (.cells cur e' (0, 0))) (hne : e ≠ e') : w'.ownsRow B e s v n xs := by
  refine h.kept hg ?_
  cases hv : v.ownBlock with
  | none => exact .inl rfl
  | some k =>
    refine .inr (fun he => ?_)
    obtain ⟨cur, h1⟩ := hrow k he.symm
    obtain ⟨cur', h2⟩ := ownsRow_block h k hv
    rw [h1] at h2
    simp at h2
    exact hne h2.2.symm

set_option maxRecDepth 100000 in
set_option maxHeartbeats 4000000 in
theorem unpackBits_any (v : Value) (L : List Sg) (N : Nat) (w : World) (h : SigsAt w v L) (hg : Good L) (hf : AllFits L) (hN : N < 18446744073709551616) :
    Calls Try.prog 72 #[v, .int .u64 N] w fun e w' => ∃ u, e = .returned (.tuple #[u, .string (strOfNums (signsL L (choiceN L N) L.length))]) ∧ IntsAt w' u (valsL L N (choiceN L N) L.length) ∧ Below w.heap.size w w' := by
  obtain ⟨i0, hinf, hz0, hz1, hz2⟩ := info_parts Try.infoU8
  obtain ⟨j0, jinf, jz0, jz1, jz2⟩ := info_parts Try.infoInt
  have IINF := hide hinf
  have IZ0 := hide hz0
  have IZ1 := hide hz1
  have IZ2 := hide hz2
  have JINF := hide jinf
  have JZ0 := hide jz0
  have JZ1 := hide jz1
  have JZ2 := hide jz2
  clear hinf hz0 hz1 hz2 jinf jz0 jz1 jz2
  have hl := hg.1
  have HG := hide hg
  have HF := hide hf
  have HN := hide hN
  have HSV := hide h
  obtain ⟨va, vcap, rfl⟩ := ownsRow_form h
  clear hg hf hN h
  go_enter Try.func72, Try.ntmps72
  go_wp2_with fail
  refine (multiplexor_any _ L _ (unhide HSV) hl).mono ?_
  rintro e w0 ⟨rfl, rfl⟩
  rcases mux_range L with hmx | ⟨x, hx, hmx, _⟩
  · have HCH := hide (show choiceN L N = 0 by rw [choiceN, hmx]; rfl)
    rw [hmx]
    clear hmx
    have HB0 : Hid (Below w0.heap.size w0 w0) := hide (Below.refl _ _)
    go_wp2
    go_loopw [8, 9, 10, 11, 12] (fun v t i _ _ wr => ∃ k : Nat, k ≤ L.length ∧ i = .int .i64 k ∧ wr.ownsRow w0.heap.size 3 1 v k ((valsL L N 0 k).map (Value.int .i64)) ∧ wr.ownsRow w0.heap.size 5 1 t k ((signsL L 0 k).map (Value.int .u8)) ∧ Below w0.heap.size w0 wr) (fun _ _ i _ _ _ => L.length - (intOf i).toNat)
    case atStart =>
      refine ⟨0, by omega, rfl, ⟨by simp [valsL], .inr ⟨_, 0, #[], rfl, Nat.le_refl _, blk_alloc (blk_new _ _), by simp, by simp [maxLen], by simp, by simp [valsL]⟩⟩, ⟨by simp [signsL], .inr ⟨_, 0, #[], rfl, by omega, new_two _ _ _, by simp, by simp [maxLen], by simp, by simp [signsL]⟩⟩, ((Below.refl _ _).alloc (Nat.le_refl _) _).alloc (by simp) _⟩
    case round =>
      obtain ⟨k, hk, rfl, hr1, hr2, hb⟩ := hrel
      obtain ⟨ta, tcap, rfl⟩ := ownsRow_form hr2
      obtain ⟨ua, ucap, rfl⟩ := ownsRow_form hr1
      have HR10 := hide hr1
      have HR20 := hide hr2
      have HB := hide hb
      clear hr1 hr2 hb
      by_cases hlt : k < L.length
      · rcases (unhide HSV).opened with ⟨hnil, _⟩ | ⟨g2, cap2, hv2, hg2, hcap2, hcm2, hc2⟩
        · rw [hnil] at hlt; simp at hlt
        cases hv2
        have HC2 := hide hc2
        obtain ⟨ok, r0, r1⟩ := (unhide HG).2 k hlt
        have OK := hide ok
        have hi0 : (0 : Int) ≤ (k : Int) := by omega
        have hi1 : (k : Int) < (L.length : Int) := by omega
        have cw := cells7 (unhide HC2) hg2 (unhide HB) hlt
        clear ok hc2
        go_wp2_with fail
        refine (isActive_any _ _ _ _ _ _ (sgAt L k).rl 0 _ r0 r1).mono ?_
        rintro e w3 ⟨rfl, hb3⟩
        have HB3 := hide ((unhide HB).trans (hb3.mono (unhide HB).size))
        have HR13 := hide (ownsRow_bel (unhide HR10) hb3)
        have HR23 := hide (ownsRow_bel (unhide HR20) hb3)
        clear hb3 cw
        cases hac : activeB (sgAt L k).rl 0 with
        | false =>
          have HVAL := hide (show valN L N 0 k = 0 by rw [valN, hac]; rfl)
          have HSGN := hide (show signN L 0 k = 45 by rw [signN, hac]; rfl)
          obtain ⟨w4, rfl⟩ : ∃ w4 : World, w4 = w3 := ⟨_, rfl⟩
          have HR1 := HR13
          have HR2 := HR23
          have HB4 := HB3
          go_wp2_with (at_builtin; refine wpList_append_own _ rfl _ _ 34 rfl w0.heap.size 3 j0 _ 1 8 Try.underlying34 (unhide JINF) (unhide JZ0) (unhide JZ1) (unhide JZ2) rfl (by decide) _ _ _ rfl ((unhide HR1).alloc _) ⟨w4.heap.size, 0, none⟩ 1 1 [.int .i64 0] rfl rfl ?c1 ?c2 ?c3 ?c4 ?c5 ?_)
          case c1 => exact new_cells (blk_new _ _)
          case c2 => simp [Value.oneCell']
          case c3 => unfold maxLen; omega
          case c4 => omega
          case c5 => have := (unhide HB4).size; simp; omega
          intro v5 w5 hown5 hgrow5 _
          obtain ⟨a5, cap5, rfl⟩ := ownsRow_form hown5
          have HB5 := hide (Below.grown ((unhide HB4).alloc (unhide HB4).size _) hgrow5 (by have := (unhide HB4).size; simp; omega) (fun q hq => ((unhide HR1).lt q hq).1))
          have HR25 := hide (ownsRow_grownB (e' := 3) ((unhide HR2).alloc _) hgrow5 (ownsRow_block ((unhide HR1).alloc _)) (by decide))
          have HR15 := hide hown5
          clear hown5 hgrow5
          go_wp2_with (at_builtin; refine wpList_append_own _ rfl _ _ 66 rfl w0.heap.size 5 i0 _ 1 1 Try.underlying66 (unhide IINF) (unhide IZ0) (unhide IZ1) (unhide IZ2) rfl (by decide) _ _ _ rfl ((unhide HR25).alloc _) ⟨w5.heap.size, 0, none⟩ 1 1 [.int .u8 45] rfl rfl ?d1 ?d2 ?d3 ?d4 ?d5 ?_)
          case d1 => exact new_cells (blk_new _ _)
          case d2 => simp [Value.oneCell']
          case d3 => unfold maxLen; omega
          case d4 => omega
          case d5 => have := (unhide HB5).size; simp; omega
          intro v7 w7 hown7 hgrow7 _
          obtain ⟨a7, cap7, rfl⟩ := ownsRow_form hown7
          have HB7 := hide (Below.grown ((unhide HB5).alloc (unhide HB5).size _) hgrow7 (by have := (unhide HB5).size; simp; omega) (fun q hq => ((unhide HR25).lt q hq).1))
          have HR17 := hide (ownsRow_grownB (e' := 5) ((unhide HR15).alloc _) hgrow7 (ownsRow_block ((unhide HR25).alloc _)) (by decide))
          have HR27 := hide hown7
          clear hown7 hgrow7
          go_wp2
          go_roundw
          case rel =>
            refine ⟨k + 1, by omega, by go_num, ?_, ?_, unhide HB7⟩
            · rw [valsL_succ, List.map_append, unhide HVAL]; exact unhide HR17
            · rw [signsL_succ, List.map_append, unhide HSGN]; exact unhide HR27
          case measure => simp [intOf]; omega
        | true =>
          have HVAL := hide (show valN L N 0 k = heldV (sgAt L k).st (sgAt L k).ln (sgAt L k).od (sgAt L k).kd N by rw [valN, hac]; rfl)
          have HSGN := hide (show signN L 0 k = 43 by rw [signN, hac]; rfl)
          have cw := cells7 (unhide HC2) hg2 (unhide HB3) hlt
          go_wp2_with fail
          refine (heldValue_any _ _ (sgAt L k).st (sgAt L k).ln (sgAt L k).od (sgAt L k).kd _ N _ (unhide OK).st0 (unhide OK).st1 (unhide OK).ln0 (unhide OK).ln1 (unhide OK).od (unhide OK).kd (unhide HF k hlt) (unhide HN)).mono ?_
          rintro e w4 ⟨rfl, hb4⟩
          have HB4 := hide ((unhide HB3).trans (hb4.mono (unhide HB3).size))
          have HR1 := hide (ownsRow_bel (unhide HR13) hb4)
          have HR2 := hide (ownsRow_bel (unhide HR23) hb4)
          clear hb4 cw
          go_wp2_with (at_builtin; refine wpList_append_own _ rfl _ _ 34 rfl w0.heap.size 3 j0 _ 1 8 Try.underlying34 (unhide JINF) (unhide JZ0) (unhide JZ1) (unhide JZ2) rfl (by decide) _ _ _ rfl ((unhide HR1).alloc _) ⟨w4.heap.size, 0, none⟩ 1 1 [.int .i64 (heldV (sgAt L k).st (sgAt L k).ln (sgAt L k).od (sgAt L k).kd N)] rfl rfl ?c1 ?c2 ?c3 ?c4 ?c5 ?_)
          case c1 => exact new_cells (blk_new _ _)
          case c2 => simp [Value.oneCell']
          case c3 => unfold maxLen; omega
          case c4 => omega
          case c5 => have := (unhide HB4).size; simp; omega
          intro v5 w5 hown5 hgrow5 _
          obtain ⟨a5, cap5, rfl⟩ := ownsRow_form hown5
          have HB5 := hide (Below.grown ((unhide HB4).alloc (unhide HB4).size _) hgrow5 (by have := (unhide HB4).size; simp; omega) (fun q hq => ((unhide HR1).lt q hq).1))
          have HR25 := hide (ownsRow_grownB (e' := 3) ((unhide HR2).alloc _) hgrow5 (ownsRow_block ((unhide HR1).alloc _)) (by decide))
          have HR15 := hide hown5
          clear hown5 hgrow5
          go_wp2_with (at_builtin; refine wpList_append_own _ rfl _ _ 66 rfl w0.heap.size 5 i0 _ 1 1 Try.underlying66 (unhide IINF) (unhide IZ0) (unhide IZ1) (unhide IZ2) rfl (by decide) _ _ _ rfl ((unhide HR25).alloc _) ⟨w5.heap.size, 0, none⟩ 1 1 [.int .u8 43] rfl rfl ?d1 ?d2 ?d3 ?d4 ?d5 ?_)
          case d1 => exact new_cells (blk_new _ _)
          case d2 => simp [Value.oneCell']
          case d3 => unfold maxLen; omega
          case d4 => omega
          case d5 => have := (unhide HB5).size; simp; omega
          intro v7 w7 hown7 hgrow7 _
          obtain ⟨a7, cap7, rfl⟩ := ownsRow_form hown7
          have HB7 := hide (Below.grown ((unhide HB5).alloc (unhide HB5).size _) hgrow7 (by have := (unhide HB5).size; simp; omega) (fun q hq => ((unhide HR25).lt q hq).1))
          have HR17 := hide (ownsRow_grownB (e' := 5) ((unhide HR15).alloc _) hgrow7 (ownsRow_block ((unhide HR25).alloc _)) (by decide))
          have HR27 := hide hown7
          clear hown7 hgrow7
          go_wp2
          go_roundw
          case rel =>
            refine ⟨k + 1, by omega, by go_num, ?_, ?_, unhide HB7⟩
            · rw [valsL_succ, List.map_append, unhide HVAL]; exact unhide HR17
            · rw [signsL_succ, List.map_append, unhide HSGN]; exact unhide HR27
          case measure => simp [intOf]; omega
      · have hkn : k = L.length := by omega
        have hconv : ∀ wx : World, wx.heap = wr.heap → (convert 66 9 (.slice ta k tcap)).run Try.prog wx = .ok (.string (strOfNums (signsL L 0 k))) wx := fun wx hw => conv_row (w := wx) (B := w0.heap.size) (by
          have := unhide HR20
          refine ⟨this.1, ?_⟩
          rcases this.2 with h | ⟨g, cap, cur, h1, h2, h3, h4⟩
          · exact .inl h
          · exact .inr ⟨g, cap, cur, h1, h2, by rw [hw]; exact h3, h4⟩)
        have HK := hide hkn
        clear hkn
        go_wp2
        refine wp_region_noPanic ?_
        refine wp_region_held_drew (S := fun w' => w'.heap = wr.heap) (by kernel_rfl) rfl (fun hHeld => ?_)
        refine wpAnyH_take (i := 0) (v := ?_) (at_list rfl) (by kernel_rfl) (by kernel_rfl) (by kernel_rfl) (fun _ _ _ h => h) (Or.inl ⟨by rfl, ?_⟩) (by assumption) ?_
        rotate_left
        · intro w hSw; (try dsimp only at hSw); first | (go_simp; done) | (go_simp; with_reducible rfl)
        try simp only [Act.put]
        try simp only [List.setIfInBounds_toArray]
        try simp only [List.set_cons_succ]
        try simp only [List.set_cons_zero]
        refine wpAnyH_take (i := 1) (v := ?_) (at_list rfl) (by kernel_rfl) (by kernel_rfl) (by kernel_rfl) (fun _ _ _ h => h) (Or.inl ⟨by rfl, ?_⟩) (by assumption) ?_
        rotate_left
        · intro w hSw; (try dsimp only at hSw); first | (go_simp; done) | (go_simp; with_reducible rfl)
        try simp only [Act.put]
        try simp only [List.setIfInBounds_toArray]
        try simp only [List.set_cons_succ]
        try simp only [List.set_cons_zero]
        refine wpAnyH_take (i := 2) (v := ?_) (at_list rfl) (by kernel_rfl) (by kernel_rfl) (by kernel_rfl) (fun _ _ _ h => h) (Or.inl ⟨by rfl, ?_⟩) (by assumption) ?_
        rotate_left
        · intro w hSw; (try dsimp only at hSw); first | (go_simp; done) | (go_simp; with_reducible rfl)
        try simp only [Act.put]
        try simp only [List.setIfInBounds_toArray]
        try simp only [List.set_cons_succ]
        try simp only [List.set_cons_zero]
        refine wpAnyH_take (i := 3) (v := ?_) (at_list rfl) (by kernel_rfl) (by kernel_rfl) (by kernel_rfl) (fun _ _ _ h => h) (Or.inl ⟨by rfl, ?_⟩) (by assumption) ?_
        rotate_left
        · intro w hSw; (try dsimp only at hSw); first | (go_simp; done) | (go_simp; with_reducible rfl)
        try simp only [Act.put]
        try simp only [List.setIfInBounds_toArray]
        try simp only [List.set_cons_succ]
        try simp only [List.set_cons_zero]
        refine wpAnyH_take (i := 4) (v := ?_) (at_list rfl) (by kernel_rfl) (by kernel_rfl) (by kernel_rfl) (fun _ _ _ h => h) (Or.inl ⟨by rfl, ?_⟩) (by assumption) ?_
        rotate_left
        · intro w hSw; (try dsimp only at hSw); first | (go_simp; done) | (go_simp; with_reducible rfl)
        try simp only [Act.put]
        try simp only [List.setIfInBounds_toArray]
        try simp only [List.set_cons_succ]
        try simp only [List.set_cons_zero]
        refine wpAnyH_done (by kernel_rfl) ?_ _
        refine NoPanic.normal ?_
        clear hconv
        go_wp2
        go_ret2
        refine ⟨.slice ua k ucap, by rw [unhide HCH, ← unhide HK]; rfl, ?_, (unhide HB).drew⟩
        rw [unhide HCH, ← unhide HK]
        refine IntsAt_row (B := w0.heap.size) ?_
        rw [valsL_len]
        exact (unhide HR10).drew
  · have HCH := hide (show choiceN L N = heldV (sgAt L x).st (sgAt L x).ln (sgAt L x).od (sgAt L x).kd N by rw [choiceN, hmx, if_pos (by omega), Int.toNat_natCast]; rfl)
    rw [hmx]
    rcases (unhide HSV).opened with ⟨hnil, _⟩ | ⟨gx, capx, hvx, hgx, hcapx, hcmx, hcx⟩
    · rw [hnil] at hx; simp at hx
    cases hvx
    have okx := ((unhide HG).2 x hx).1
    have OKX := hide okx
    have hj0 : (0 : Int) ≤ (x : Int) := by omega
    have hj1 : (x : Int) < (L.length : Int) := by omega
    have cwx := cells7 hcx hgx (Below.refl _ _) hx
    clear hmx okx hcx
    go_wp2_with fail
    refine (heldValue_any _ _ (sgAt L x).st (sgAt L x).ln (sgAt L x).od (sgAt L x).kd _ N _ (unhide OKX).st0 (unhide OKX).st1 (unhide OKX).ln0 (unhide OKX).ln1 (unhide OKX).od (unhide OKX).kd (unhide HF x hx) (unhide HN)).mono ?_
    rintro e w2 ⟨rfl, hb2⟩
    obtain ⟨cc, HCCV⟩ : ∃ cc, Hid (cc = heldV (sgAt L x).st (sgAt L x).ln (sgAt L x).od (sgAt L x).kd N) := ⟨_, hide rfl⟩
    rw [← unhide HCCV] at HCH
    rw [← unhide HCCV]
    have HBX0 := hide hb2
    have hszw := hb2.size
    clear hb2 cwx
    go_wp2
    go_loopw [8, 9, 10, 11, 12] (fun v t i _ _ wr => ∃ k : Nat, k ≤ L.length ∧ i = .int .i64 k ∧ wr.ownsRow w0.heap.size 3 1 v k ((valsL L N cc k).map (Value.int .i64)) ∧ wr.ownsRow w0.heap.size 5 1 t k ((signsL L cc k).map (Value.int .u8)) ∧ Below w0.heap.size w0 wr) (fun _ _ i _ _ _ => L.length - (intOf i).toNat)
    case atStart =>
      refine ⟨0, by omega, rfl, ⟨by simp [valsL], .inr ⟨_, 0, #[], rfl, hszw, blk_alloc (blk_new _ _), by simp, by simp [maxLen], by simp, by simp [valsL]⟩⟩, ⟨by simp [signsL], .inr ⟨_, 0, #[], rfl, by omega, new_two _ _ _, by simp, by simp [maxLen], by simp, by simp [signsL]⟩⟩, ((unhide HBX0).alloc hszw _).alloc (by simp; omega) _⟩
    case round =>
      obtain ⟨k, hk, rfl, hr1, hr2, hb⟩ := hrel
      obtain ⟨ta, tcap, rfl⟩ := ownsRow_form hr2
      obtain ⟨ua, ucap, rfl⟩ := ownsRow_form hr1
      have HR10 := hide hr1
      have HR20 := hide hr2
      have HB := hide hb
      clear hr1 hr2 hb
      by_cases hlt : k < L.length
      · rcases (unhide HSV).opened with ⟨hnil, _⟩ | ⟨g2, cap2, hv2, hg2, hcap2, hcm2, hc2⟩
        · rw [hnil] at hlt; simp at hlt
        cases hv2
        have HC2 := hide hc2
        obtain ⟨ok, r0, r1⟩ := (unhide HG).2 k hlt
        have OK := hide ok
        have hi0 : (0 : Int) ≤ (k : Int) := by omega
        have hi1 : (k : Int) < (L.length : Int) := by omega
        have cw := cells7 (unhide HC2) hg2 (unhide HB) hlt
        clear ok hc2
        go_wp2_with fail
        refine (isActive_any _ _ _ _ _ _ (sgAt L k).rl cc _ r0 r1).mono ?_
        rintro e w3 ⟨rfl, hb3⟩
        have HB3 := hide ((unhide HB).trans (hb3.mono (unhide HB).size))
        have HR13 := hide (ownsRow_bel (unhide HR10) hb3)
        have HR23 := hide (ownsRow_bel (unhide HR20) hb3)
        clear hb3 cw
        cases hac : activeB (sgAt L k).rl cc with
        | false =>
          have HVAL := hide (show valN L N cc k = 0 by rw [valN, hac]; rfl)
          have HSGN := hide (show signN L cc k = 45 by rw [signN, hac]; rfl)
          obtain ⟨w4, rfl⟩ : ∃ w4 : World, w4 = w3 := ⟨_, rfl⟩
          have HR1 := HR13
          have HR2 := HR23
          have HB4 := HB3
          go_wp2_with (at_builtin; refine wpList_append_own _ rfl _ _ 34 rfl w0.heap.size 3 j0 _ 1 8 Try.underlying34 (unhide JINF) (unhide JZ0) (unhide JZ1) (unhide JZ2) rfl (by decide) _ _ _ rfl ((unhide HR1).alloc _) ⟨w4.heap.size, 0, none⟩ 1 1 [.int .i64 0] rfl rfl ?c1 ?c2 ?c3 ?c4 ?c5 ?_)
          case c1 => exact new_cells (blk_new _ _)
          case c2 => simp [Value.oneCell']
          case c3 => unfold maxLen; omega
          case c4 => omega
          case c5 => have := (unhide HB4).size; simp; omega
          intro v5 w5 hown5 hgrow5 _
          obtain ⟨a5, cap5, rfl⟩ := ownsRow_form hown5
          have HB5 := hide (Below.grown ((unhide HB4).alloc (unhide HB4).size _) hgrow5 (by have := (unhide HB4).size; simp; omega) (fun q hq => ((unhide HR1).lt q hq).1))
          have HR25 := hide (ownsRow_grownB (e' := 3) ((unhide HR2).alloc _) hgrow5 (ownsRow_block ((unhide HR1).alloc _)) (by decide))
          have HR15 := hide hown5
          clear hown5 hgrow5
          go_wp2_with (at_builtin; refine wpList_append_own _ rfl _ _ 66 rfl w0.heap.size 5 i0 _ 1 1 Try.underlying66 (unhide IINF) (unhide IZ0) (unhide IZ1) (unhide IZ2) rfl (by decide) _ _ _ rfl ((unhide HR25).alloc _) ⟨w5.heap.size, 0, none⟩ 1 1 [.int .u8 45] rfl rfl ?d1 ?d2 ?d3 ?d4 ?d5 ?_)
          case d1 => exact new_cells (blk_new _ _)
          case d2 => simp [Value.oneCell']
          case d3 => unfold maxLen; omega
          case d4 => omega
          case d5 => have := (unhide HB5).size; simp; omega
          intro v7 w7 hown7 hgrow7 _
          obtain ⟨a7, cap7, rfl⟩ := ownsRow_form hown7
          have HB7 := hide (Below.grown ((unhide HB5).alloc (unhide HB5).size _) hgrow7 (by have := (unhide HB5).size; simp; omega) (fun q hq => ((unhide HR25).lt q hq).1))
          have HR17 := hide (ownsRow_grownB (e' := 5) ((unhide HR15).alloc _) hgrow7 (ownsRow_block ((unhide HR25).alloc _)) (by decide))
          have HR27 := hide hown7
          clear hown7 hgrow7
          go_wp2
          go_roundw
          case rel =>
            refine ⟨k + 1, by omega, by go_num, ?_, ?_, unhide HB7⟩
            · rw [valsL_succ, List.map_append, unhide HVAL]; exact unhide HR17
            · rw [signsL_succ, List.map_append, unhide HSGN]; exact unhide HR27
          case measure => simp [intOf]; omega
        | true =>
          have HVAL := hide (show valN L N cc k = heldV (sgAt L k).st (sgAt L k).ln (sgAt L k).od (sgAt L k).kd N by rw [valN, hac]; rfl)
          have HSGN := hide (show signN L cc k = 43 by rw [signN, hac]; rfl)
          have cw := cells7 (unhide HC2) hg2 (unhide HB3) hlt
          go_wp2_with fail
          refine (heldValue_any _ _ (sgAt L k).st (sgAt L k).ln (sgAt L k).od (sgAt L k).kd _ N _ (unhide OK).st0 (unhide OK).st1 (unhide OK).ln0 (unhide OK).ln1 (unhide OK).od (unhide OK).kd (unhide HF k hlt) (unhide HN)).mono ?_
          rintro e w4 ⟨rfl, hb4⟩
          have HB4 := hide ((unhide HB3).trans (hb4.mono (unhide HB3).size))
          have HR1 := hide (ownsRow_bel (unhide HR13) hb4)
          have HR2 := hide (ownsRow_bel (unhide HR23) hb4)
          clear hb4 cw
          go_wp2_with (at_builtin; refine wpList_append_own _ rfl _ _ 34 rfl w0.heap.size 3 j0 _ 1 8 Try.underlying34 (unhide JINF) (unhide JZ0) (unhide JZ1) (unhide JZ2) rfl (by decide) _ _ _ rfl ((unhide HR1).alloc _) ⟨w4.heap.size, 0, none⟩ 1 1 [.int .i64 (heldV (sgAt L k).st (sgAt L k).ln (sgAt L k).od (sgAt L k).kd N)] rfl rfl ?c1 ?c2 ?c3 ?c4 ?c5 ?_)
          case c1 => exact new_cells (blk_new _ _)
          case c2 => simp [Value.oneCell']
          case c3 => unfold maxLen; omega
          case c4 => omega
          case c5 => have := (unhide HB4).size; simp; omega
          intro v5 w5 hown5 hgrow5 _
          obtain ⟨a5, cap5, rfl⟩ := ownsRow_form hown5
          have HB5 := hide (Below.grown ((unhide HB4).alloc (unhide HB4).size _) hgrow5 (by have := (unhide HB4).size; simp; omega) (fun q hq => ((unhide HR1).lt q hq).1))
          have HR25 := hide (ownsRow_grownB (e' := 3) ((unhide HR2).alloc _) hgrow5 (ownsRow_block ((unhide HR1).alloc _)) (by decide))
          have HR15 := hide hown5
          clear hown5 hgrow5
          go_wp2_with (at_builtin; refine wpList_append_own _ rfl _ _ 66 rfl w0.heap.size 5 i0 _ 1 1 Try.underlying66 (unhide IINF) (unhide IZ0) (unhide IZ1) (unhide IZ2) rfl (by decide) _ _ _ rfl ((unhide HR25).alloc _) ⟨w5.heap.size, 0, none⟩ 1 1 [.int .u8 43] rfl rfl ?d1 ?d2 ?d3 ?d4 ?d5 ?_)
          case d1 => exact new_cells (blk_new _ _)
          case d2 => simp [Value.oneCell']
          case d3 => unfold maxLen; omega
          case d4 => omega
          case d5 => have := (unhide HB5).size; simp; omega
          intro v7 w7 hown7 hgrow7 _
          obtain ⟨a7, cap7, rfl⟩ := ownsRow_form hown7
          have HB7 := hide (Below.grown ((unhide HB5).alloc (unhide HB5).size _) hgrow7 (by have := (unhide HB5).size; simp; omega) (fun q hq => ((unhide HR25).lt q hq).1))
          have HR17 := hide (ownsRow_grownB (e' := 5) ((unhide HR15).alloc _) hgrow7 (ownsRow_block ((unhide HR25).alloc _)) (by decide))
          have HR27 := hide hown7
          clear hown7 hgrow7
          go_wp2
          go_roundw
          case rel =>
            refine ⟨k + 1, by omega, by go_num, ?_, ?_, unhide HB7⟩
            · rw [valsL_succ, List.map_append, unhide HVAL]; exact unhide HR17
            · rw [signsL_succ, List.map_append, unhide HSGN]; exact unhide HR27
          case measure => simp [intOf]; omega
      · have hkn : k = L.length := by omega
        have hconv : ∀ wx : World, wx.heap = wr.heap → (convert 66 9 (.slice ta k tcap)).run Try.prog wx = .ok (.string (strOfNums (signsL L cc k))) wx := fun wx hw => conv_row (w := wx) (B := w0.heap.size) (by
          have := unhide HR20
          refine ⟨this.1, ?_⟩
          rcases this.2 with h | ⟨g, cap, cur, h1, h2, h3, h4⟩
          · exact .inl h
          · exact .inr ⟨g, cap, cur, h1, h2, by rw [hw]; exact h3, h4⟩)
        have HK := hide hkn
        clear hkn
        go_wp2
        refine wp_region_noPanic ?_
        refine wp_region_held_drew (S := fun w' => w'.heap = wr.heap) (by kernel_rfl) rfl (fun hHeld => ?_)
        refine wpAnyH_take (i := 0) (v := ?_) (at_list rfl) (by kernel_rfl) (by kernel_rfl) (by kernel_rfl) (fun _ _ _ h => h) (Or.inl ⟨by rfl, ?_⟩) (by assumption) ?_
        rotate_left
        · intro w hSw; (try dsimp only at hSw); first | (go_simp; done) | (go_simp; with_reducible rfl)
        try simp only [Act.put]
        try simp only [List.setIfInBounds_toArray]
        try simp only [List.set_cons_succ]
        try simp only [List.set_cons_zero]
        refine wpAnyH_take (i := 1) (v := ?_) (at_list rfl) (by kernel_rfl) (by kernel_rfl) (by kernel_rfl) (fun _ _ _ h => h) (Or.inl ⟨by rfl, ?_⟩) (by assumption) ?_
        rotate_left
        · intro w hSw; (try dsimp only at hSw); first | (go_simp; done) | (go_simp; with_reducible rfl)
        try simp only [Act.put]
        try simp only [List.setIfInBounds_toArray]
        try simp only [List.set_cons_succ]
        try simp only [List.set_cons_zero]
        refine wpAnyH_take (i := 2) (v := ?_) (at_list rfl) (by kernel_rfl) (by kernel_rfl) (by kernel_rfl) (fun _ _ _ h => h) (Or.inl ⟨by rfl, ?_⟩) (by assumption) ?_
        rotate_left
        · intro w hSw; (try dsimp only at hSw); first | (go_simp; done) | (go_simp; with_reducible rfl)
        try simp only [Act.put]
        try simp only [List.setIfInBounds_toArray]
        try simp only [List.set_cons_succ]
        try simp only [List.set_cons_zero]
        refine wpAnyH_take (i := 3) (v := ?_) (at_list rfl) (by kernel_rfl) (by kernel_rfl) (by kernel_rfl) (fun _ _ _ h => h) (Or.inl ⟨by rfl, ?_⟩) (by assumption) ?_
        rotate_left
        · intro w hSw; (try dsimp only at hSw); first | (go_simp; done) | (go_simp; with_reducible rfl)
        try simp only [Act.put]
        try simp only [List.setIfInBounds_toArray]
        try simp only [List.set_cons_succ]
        try simp only [List.set_cons_zero]
        refine wpAnyH_take (i := 4) (v := ?_) (at_list rfl) (by kernel_rfl) (by kernel_rfl) (by kernel_rfl) (fun _ _ _ h => h) (Or.inl ⟨by rfl, ?_⟩) (by assumption) ?_
        rotate_left
        · intro w hSw; (try dsimp only at hSw); first | (go_simp; done) | (go_simp; with_reducible rfl)
        try simp only [Act.put]
        try simp only [List.setIfInBounds_toArray]
        try simp only [List.set_cons_succ]
        try simp only [List.set_cons_zero]
        refine wpAnyH_done (by kernel_rfl) ?_ _
        refine NoPanic.normal ?_
        clear hconv
        go_wp2
        go_ret2
        refine ⟨.slice ua k ucap, by rw [unhide HCH, ← unhide HK]; rfl, ?_, (unhide HB).drew⟩
        rw [unhide HCH, ← unhide HK]
        refine IntsAt_row (B := w0.heap.size) ?_
        rw [valsL_len]
        exact (unhide HR10).drew

end Go.Proofs.Ytoihlnjcgopdlab

namespace Go.Proofs.Ytoihlnjcgopdlab
open Go.RowKit

theorem str_push (xs : List Int) (c : Int) : strOfNums (xs ++ [c]) = strOfNums xs ++ ⟨#[UInt8.ofNat c.toNat]⟩ := by
  apply ByteArray.ext
  simp [strOfNums]

theorem vals_stay (L : List Sg) (N : Nat) (c : Int) (k : Nat) (hk : k < L.length) (h : valN L N c k = 0) :
    (valsL L N c (k + 1)).map (Value.int .i64) ++ List.replicate (L.length - (k + 1)) (.int .i64 0) = (valsL L N c k).map (Value.int .i64) ++ List.replicate (L.length - k) (.int .i64 0) := by
  obtain ⟨n, hn⟩ : ∃ n, L.length - k = n + 1 := ⟨L.length - k - 1, by omega⟩
  rw [hn, show L.length - (k + 1) = n by omega, valsL_succ, h, List.replicate_succ]
  simp
theorem vals_set (L : List Sg) (N : Nat) (c : Int) (k : Nat) (hk : k < L.length) :
    ((valsL L N c k).map (Value.int .i64) ++ List.replicate (L.length - k) (Value.int .i64 0)).set k (Value.int .i64 (valN L N c k)) = (valsL L N c (k + 1)).map (Value.int .i64) ++ List.replicate (L.length - (k + 1)) (Value.int .i64 0) := by
  have h1 : ((valsL L N c k).map (Value.int .i64)).length = k := by simp [valsL]
  obtain ⟨n, hn⟩ : ∃ n, L.length - k = n + 1 := ⟨L.length - k - 1, by omega⟩
  rw [List.set_append_right _ _ (by omega), h1, Nat.sub_self, hn, show L.length - (k + 1) = n by omega, valsL_succ, List.replicate_succ, List.set_cons_zero]
  simp

theorem ownsRow_to {w : World} {B B' e s : Nat} {v : Value} {n : Nat} {xs : List Value} (h : w.ownsRow B e s v n xs) (hb : B' ≤ B) : w.ownsRow B' e s v n xs := by
  refine ⟨h.1, ?_⟩
  rcases h.2 with hn | ⟨g, cap, cur, hv, hg, r⟩
  · exact .inl hn
  · exact .inr ⟨g, cap, cur, hv, Nat.le_trans hb hg, r⟩

set_option maxRecDepth 100000 in
set_option maxHeartbeats 4000000 in
theorem rUnpackedO_any (id p : ByteArray) (sz pl : Int) (v : Value) (L : List Sg) (w : World) (h : RSigsAt w v L) (hg : Good L) (h8 : p.size ≤ 8) (hwi : Within L p.size) :
    Calls Try.prog 73 #[.agg #[.string id, .int .i64 sz, v, .int .i64 pl], .string p] w fun e w' => ∃ u, e = .returned (.tuple #[u, .string (strOfNums (signsL L (choiceN L (payTo p p.size)) L.length))]) ∧ w'.ownsRow w.heap.size 3 1 u L.length ((valsL L (payTo p p.size) (choiceN L (payTo p p.size)) L.length).map (Value.int .i64)) ∧ Below w.heap.size w w' := by
  obtain ⟨j0, jinf, jz0, jz1, jz2⟩ := info_parts Try.infoInt
  have JINF := hide jinf
  have JZ0 := hide jz0
  have JZ1 := hide jz1
  have JZ2 := hide jz2
  clear jinf jz0 jz1 jz2
  have hl := hg.1
  have HG := hide hg
  have HWI := hide hwi
  have HSV := hide h
  obtain ⟨va, vcap, rfl⟩ := ownsRow_form h
  obtain ⟨N, HNN⟩ : ∃ N, Hid (N = payTo p p.size) := ⟨_, hide rfl⟩
  rw [← unhide HNN]
  clear hg hwi h
  have hbox := fun (wx : World) (h : Below (w.heap.size + 1) (w.alloc (.cells #[.string id, .int .i64 sz, .slice va L.length vcap, .int .i64 pl] 50)) wx) => box_cell h
  go_enter Try.func73, Try.ntmps73
  go_wp2_with fail
  refine (rMux_any id sz pl _ L _ (ownsRow_below (unhide HSV) ((Below.refl _ _).alloc (Nat.le_refl _) _)) hl).mono ?_
  rintro e w1 ⟨rfl, hb1⟩
  have HB1 : Hid (Below (w.heap.size + 1) (w.alloc (.cells #[.string id, .int .i64 sz, .slice va L.length vcap, .int .i64 pl] 50)) w1) := hide (hb1.mono (by simp))
  have hbw1 := hbox _ (unhide HB1)
  clear hb1
  rcases mux_range L with hmx | ⟨x, hx, hmx, _⟩
  · have HCH := hide (show choiceN L N = 0 by rw [choiceN, hmx]; rfl)
    rw [hmx]
    clear hmx
    go_wp2_with (at_make; refine wpList_make_full _ rfl _ _ 34 rfl (w.heap.size + 1) 3 j0 (.int .i64 0) 1 Try.underlying34 (unhide JINF) (unhide JZ0) (unhide JZ1) .i64 .i64 (L.length : Int) (L.length : Int) L.length rfl rfl rfl rfl (by rw [unhide JZ2]; omega) (by unfold maxLen; omega) (by have := (unhide HB1).size; simp at this; omega) ?_)
    intro w2 hown hgrow
    have HB2 := hide (Below.grown (unhide HB1) hgrow (by have := (unhide HB1).size; simp at this; omega) (by simp))
    obtain ⟨wo, HWO⟩ : ∃ wo : World, Hid (wo = w1) := ⟨_, hide rfl⟩
    rw [← unhide HWO] at hown
    rw [← unhide HWO]
    have HROW : Hid (w2.ownsRow (w.heap.size + 1) 3 1 (.slice (some ⟨wo.heap.size, 0, none⟩) L.length L.length) L.length ((valsL L N 0 0).map (Value.int .i64) ++ List.replicate (L.length - 0) (.int .i64 0))) := hide (by rw [toList_madeCells_one] at hown; simpa [valsL] using hown)
    clear hown hgrow
    have hbw := hbox _ (unhide HB2)
    go_wp2
    clear hbw
    go_loopw [9, 10, 11] (fun t i _ wr => ∃ k : Nat, k ≤ L.length ∧ i = .int .i64 k ∧ t = .string (strOfNums (signsL L 0 k)) ∧ wr.ownsRow (w.heap.size + 1) 3 1 (.slice (some ⟨wo.heap.size, 0, none⟩) L.length L.length) L.length ((valsL L N 0 k).map (Value.int .i64) ++ List.replicate (L.length - k) (.int .i64 0)) ∧ Below (w.heap.size + 1) (w.alloc (.cells #[.string id, .int .i64 sz, .slice va L.length vcap, .int .i64 pl] 50)) wr) (fun _ i _ _ => L.length - (intOf i).toNat)
    case atStart => exact ⟨0, by omega, rfl, rfl, unhide HROW, unhide HB2⟩
    case round =>
      obtain ⟨k, hk, rfl, rfl, hrow, hb⟩ := hrel
      have HR := hide hrow
      have HB := hide hb
      have hbw := hbox _ hb
      clear hrow hb
      by_cases hlt : k < L.length
      · obtain ⟨ok, r0, r1⟩ := (unhide HG).2 k hlt
        have OK := hide ok
        have hi0 : (0 : Int) ≤ (k : Int) := by omega
        have hi1 : (k : Int) < (L.length : Int) := by omega
        have hsz : (strOfNums (signsL L 0 k)).size ≤ 8 := by rw [strOfNums_size]; simp [signsL]; omega
        clear ok
        go_wp2_with fail
        refine (rActive_any id sz pl _ L k 0 _ (ownsRow_below (unhide HSV) (box_below (unhide HB))) hl hlt r0 r1).mono ?_
        rintro e w3 ⟨rfl, hb3⟩
        have HB3 := hide (box_next (unhide HB) hb3)
        have HR3 := hide (ownsRow_bel (unhide HR) hb3)
        clear hb3 hbw
        cases hac : activeB (sgAt L k).rl 0 with
        | false =>
          have HVAL := hide (show valN L N 0 k = 0 by rw [valN, hac]; rfl)
          have HSGN := hide (show signN L 0 k = 45 by rw [signN, hac]; rfl)
          go_wp2
          go_roundw
          case rel =>
            refine ⟨k + 1, by omega, by go_num, ?_, ?_, unhide HB3⟩
            · rw [signsL_succ, unhide HSGN, str_push]; rfl
            · rw [vals_stay L N 0 k hlt (unhide HVAL)]; exact unhide HR3
          case measure => simp [intOf]; omega
        | true =>
          have HVAL := hide (show valN L N 0 k = heldV (sgAt L k).st (sgAt L k).ln (sgAt L k).od (sgAt L k).kd N by rw [valN, hac]; rfl)
          have HSGN := hide (show signN L 0 k = 43 by rw [signN, hac]; rfl)
          rcases (unhide HSV).opened with ⟨hnil, _⟩ | ⟨g2, cap2, hv2, hg2, hcap2, hcm2, hc2⟩
          · rw [hnil] at hlt; simp at hlt
          cases hv2
          have cw := rcells7 hc2 hg2 (box_below (unhide HB3)) hlt
          have hbw := hbox _ (unhide HB3)
          clear hc2
          go_wp2_with fail
          refine (rHolds_any _ (sgAt L k).st (sgAt L k).ln (sgAt L k).od (sgAt L k).kd _ _ p _ (unhide OK).st0 (unhide OK).st1 (unhide OK).ln0 (unhide OK).ln1 (unhide OK).od h8 (fun i hi => unhide HWI k hlt i hi)).mono ?_
          rintro e w4 ⟨rfl, hb4⟩
          have HB4 := hide (box_next (unhide HB3) hb4)
          have HR4 := hide (ownsRow_bel (unhide HR3) hb4)
          clear hb4 cw hbw
          rw [← unhide HNN]
          have hoc := (unhide HR4).cellAt k (by omega)
          have hof := (unhide HR4).frozenAt k
          have hst := (unhide HR4).stored k (.int .i64 (valN L N 0 k))
          rw [vals_set L N 0 k hlt] at hst
          have HST := hide hst
          have hgeb := ((unhide HR4).lt _ rfl).1
          obtain ⟨ov, hov⟩ : ∃ ov, w4.cell? ⟨wo.heap.size, k, none⟩ = some ov := ⟨_, hoc.trans (List.getElem?_eq_getElem (by simp [valsL]; omega))⟩
          rw [← unhide HVAL]
          clear hst hoc
          go_wp2
          go_roundw
          case rel =>
            refine ⟨k + 1, by omega, by go_num, ?_, (unhide HST).1, (unhide HB4).setCell hgeb _⟩
            rw [signsL_succ, unhide HSGN, str_push]; rfl
          case measure => simp [intOf]; omega
      · have hkn : k = L.length := by omega
        have HK := hide hkn
        clear hkn
        go_wp2
        go_ret2
        refine ⟨.slice (some ⟨wo.heap.size, 0, none⟩) L.length L.length, by rw [unhide HCH, ← unhide HK]; rfl, ?_, box_below (unhide HB)⟩
        rw [unhide HCH]
        have h9 := unhide HR
        rw [unhide HK, Nat.sub_self, List.replicate_zero, List.append_nil] at h9
        exact ownsRow_to h9 (by omega)
  · have HCH := hide (show choiceN L N = heldV (sgAt L x).st (sgAt L x).ln (sgAt L x).od (sgAt L x).kd N by rw [choiceN, hmx, if_pos (by omega), Int.toNat_natCast]; rfl)
    rw [hmx]
    rcases (unhide HSV).opened with ⟨hnil, _⟩ | ⟨gx, capx, hvx, hgx, hcapx, hcmx, hcx⟩
    · rw [hnil] at hx; simp at hx
    cases hvx
    have okx := ((unhide HG).2 x hx).1
    have OKX := hide okx
    have hj0 : (0 : Int) ≤ (x : Int) := by omega
    have hj1 : (x : Int) < (L.length : Int) := by omega
    have cwx := rcells7 hcx hgx (box_below (unhide HB1)) hx
    clear hmx okx hcx
    go_wp2_with fail
    refine (rHolds_any _ (sgAt L x).st (sgAt L x).ln (sgAt L x).od (sgAt L x).kd _ _ p _ (unhide OKX).st0 (unhide OKX).st1 (unhide OKX).ln0 (unhide OKX).ln1 (unhide OKX).od h8 (fun i hi => unhide HWI x hx i hi)).mono ?_
    rintro e w1b ⟨rfl, hb1b⟩
    rw [← unhide HNN]
    obtain ⟨cc, HCCV⟩ : ∃ cc, Hid (cc = heldV (sgAt L x).st (sgAt L x).ln (sgAt L x).od (sgAt L x).kd N) := ⟨_, hide rfl⟩
    rw [← unhide HCCV] at HCH
    rw [← unhide HCCV]
    have HB1o := HB1
    clear HB1
    have HB1 := hide (box_next (unhide HB1o) hb1b)
    clear hb1b cwx hbw1
    have hbw1 := hbox _ (unhide HB1)
    go_wp2_with (at_make; refine wpList_make_full _ rfl _ _ 34 rfl (w.heap.size + 1) 3 j0 (.int .i64 0) 1 Try.underlying34 (unhide JINF) (unhide JZ0) (unhide JZ1) .i64 .i64 (L.length : Int) (L.length : Int) L.length rfl rfl rfl rfl (by rw [unhide JZ2]; omega) (by unfold maxLen; omega) (by have := (unhide HB1).size; simp at this; omega) ?_)
    intro w2 hown hgrow
    have HB2 := hide (Below.grown (unhide HB1) hgrow (by have := (unhide HB1).size; simp at this; omega) (by simp))
    obtain ⟨wo, HWO⟩ : ∃ wo : World, Hid (wo = w1b) := ⟨_, hide rfl⟩
    rw [← unhide HWO] at hown
    rw [← unhide HWO]
    have HROW : Hid (w2.ownsRow (w.heap.size + 1) 3 1 (.slice (some ⟨wo.heap.size, 0, none⟩) L.length L.length) L.length ((valsL L N cc 0).map (Value.int .i64) ++ List.replicate (L.length - 0) (.int .i64 0))) := hide (by rw [toList_madeCells_one] at hown; simpa [valsL] using hown)
    clear hown hgrow
    have hbw := hbox _ (unhide HB2)
    go_wp2
    clear hbw
    go_loopw [9, 10, 11] (fun t i _ wr => ∃ k : Nat, k ≤ L.length ∧ i = .int .i64 k ∧ t = .string (strOfNums (signsL L cc k)) ∧ wr.ownsRow (w.heap.size + 1) 3 1 (.slice (some ⟨wo.heap.size, 0, none⟩) L.length L.length) L.length ((valsL L N cc k).map (Value.int .i64) ++ List.replicate (L.length - k) (.int .i64 0)) ∧ Below (w.heap.size + 1) (w.alloc (.cells #[.string id, .int .i64 sz, .slice (some ⟨gx, 0, none⟩) L.length vcap, .int .i64 pl] 50)) wr) (fun _ i _ _ => L.length - (intOf i).toNat)
    case atStart => exact ⟨0, by omega, rfl, rfl, unhide HROW, unhide HB2⟩
    case round =>
      obtain ⟨k, hk, rfl, rfl, hrow, hb⟩ := hrel
      have HR := hide hrow
      have HB := hide hb
      have hbw := hbox _ hb
      clear hrow hb
      by_cases hlt : k < L.length
      · obtain ⟨ok, r0, r1⟩ := (unhide HG).2 k hlt
        have OK := hide ok
        have hi0 : (0 : Int) ≤ (k : Int) := by omega
        have hi1 : (k : Int) < (L.length : Int) := by omega
        have hsz : (strOfNums (signsL L cc k)).size ≤ 8 := by rw [strOfNums_size]; simp [signsL]; omega
        clear ok
        go_wp2_with fail
        refine (rActive_any id sz pl _ L k cc _ (ownsRow_below (unhide HSV) (box_below (unhide HB))) hl hlt r0 r1).mono ?_
        rintro e w3 ⟨rfl, hb3⟩
        have HB3 := hide (box_next (unhide HB) hb3)
        have HR3 := hide (ownsRow_bel (unhide HR) hb3)
        clear hb3 hbw
        cases hac : activeB (sgAt L k).rl cc with
        | false =>
          have HVAL := hide (show valN L N cc k = 0 by rw [valN, hac]; rfl)
          have HSGN := hide (show signN L cc k = 45 by rw [signN, hac]; rfl)
          go_wp2
          go_roundw
          case rel =>
            refine ⟨k + 1, by omega, by go_num, ?_, ?_, unhide HB3⟩
            · rw [signsL_succ, unhide HSGN, str_push]; rfl
            · rw [vals_stay L N cc k hlt (unhide HVAL)]; exact unhide HR3
          case measure => simp [intOf]; omega
        | true =>
          have HVAL := hide (show valN L N cc k = heldV (sgAt L k).st (sgAt L k).ln (sgAt L k).od (sgAt L k).kd N by rw [valN, hac]; rfl)
          have HSGN := hide (show signN L cc k = 43 by rw [signN, hac]; rfl)
          rcases (unhide HSV).opened with ⟨hnil, _⟩ | ⟨g2, cap2, hv2, hg2, hcap2, hcm2, hc2⟩
          · rw [hnil] at hlt; simp at hlt
          cases hv2
          have cw := rcells7 hc2 hg2 (box_below (unhide HB3)) hlt
          have hbw := hbox _ (unhide HB3)
          clear hc2
          go_wp2_with fail
          refine (rHolds_any _ (sgAt L k).st (sgAt L k).ln (sgAt L k).od (sgAt L k).kd _ _ p _ (unhide OK).st0 (unhide OK).st1 (unhide OK).ln0 (unhide OK).ln1 (unhide OK).od h8 (fun i hi => unhide HWI k hlt i hi)).mono ?_
          rintro e w4 ⟨rfl, hb4⟩
          have HB4 := hide (box_next (unhide HB3) hb4)
          have HR4 := hide (ownsRow_bel (unhide HR3) hb4)
          clear hb4 cw hbw
          rw [← unhide HNN]
          have hoc := (unhide HR4).cellAt k (by omega)
          have hof := (unhide HR4).frozenAt k
          have hst := (unhide HR4).stored k (.int .i64 (valN L N cc k))
          rw [vals_set L N cc k hlt] at hst
          have HST := hide hst
          have hgeb := ((unhide HR4).lt _ rfl).1
          obtain ⟨ov, hov⟩ : ∃ ov, w4.cell? ⟨wo.heap.size, k, none⟩ = some ov := ⟨_, hoc.trans (List.getElem?_eq_getElem (by simp [valsL]; omega))⟩
          rw [← unhide HVAL]
          clear hst hoc
          go_wp2
          go_roundw
          case rel =>
            refine ⟨k + 1, by omega, by go_num, ?_, (unhide HST).1, (unhide HB4).setCell hgeb _⟩
            rw [signsL_succ, unhide HSGN, str_push]; rfl
          case measure => simp [intOf]; omega
      · have hkn : k = L.length := by omega
        have HK := hide hkn
        clear hkn
        go_wp2
        go_ret2
        refine ⟨.slice (some ⟨wo.heap.size, 0, none⟩) L.length L.length, by rw [unhide HCH, ← unhide HK]; rfl, ?_, box_below (unhide HB)⟩
        rw [unhide HCH]
        have h9 := unhide HR
        rw [unhide HK, Nat.sub_self, List.replicate_zero, List.append_nil] at h9
        exact ownsRow_to h9 (by omega)

theorem rUnpacked_any (id p : ByteArray) (sz pl : Int) (v : Value) (L : List Sg) (w : World) (h : RSigsAt w v L) (hg : Good L) (h8 : p.size ≤ 8) (hwi : Within L p.size) :
    Calls Try.prog 73 #[.agg #[.string id, .int .i64 sz, v, .int .i64 pl], .string p] w fun e w' => ∃ u, e = .returned (.tuple #[u, .string (strOfNums (signsL L (choiceN L (payTo p p.size)) L.length))]) ∧ IntsAt w' u (valsL L (payTo p p.size) (choiceN L (payTo p p.size)) L.length) ∧ Below w.heap.size w w' := by
  refine (rUnpackedO_any id p sz pl v L w h hg h8 hwi).mono ?_
  rintro e w' ⟨u, rfl, ho, hb⟩
  exact ⟨u, rfl, IntsAt_row (B := w.heap.size) (by rw [valsL_len]; exact ho), hb⟩

end Go.Proofs.Ytoihlnjcgopdlab

namespace Go.Proofs.Ytoihlnjcgopdlab
open Go.RowKit

/-- P5, of a message. -/
def upMsg (m : Mg) (p : ByteArray) : List Int × ByteArray × Int × Int :=
  if (p.size : Int) ≠ m.sz then ([], noBytes, 10, 0)
  else (valsL m.sigs (payTo p p.size) (choiceN m.sigs (payTo p p.size)) m.sigs.length, strOfNums (signsL m.sigs (choiceN m.sigs (payTo p p.size)) m.sigs.length), 0, 0)
/-- P5. -/
def up (s id p : ByteArray) : List Int × ByteArray × Int × Int :=
  if 8 < p.size then ([], noBytes, 1, 0) else
  if chkE s ≠ 0 then ([], noBytes, chkE s, chkP s) else
  match pDb s 4 0 with
  | .inl _ => ([], noBytes, 0, 0)
  | .inr M => if msgIx M id < 0 then ([], noBytes, 7, 0) else upMsg (mAt M (msgIx M id).toNat) p

theorem up_eta {x : List Int × ByteArray × Int × Int} {l : List Int} {a : ByteArray} {b c : Int} (h : x = (l, a, b, c)) : x.1 = l ∧ x.2.1 = a ∧ x.2.2.1 = b ∧ x.2.2.2 = c := by rw [h]; exact ⟨rfl, rfl, rfl, rfl⟩
theorem up_long {s id p : ByteArray} (h : 8 < p.size) : up s id p = ([], noBytes, 1, 0) := by rw [up, if_pos h]
theorem up_bad {s id p : ByteArray} (h8 : ¬ 8 < p.size) (h : chkE s ≠ 0) : up s id p = ([], noBytes, chkE s, chkP s) := by rw [up, if_neg h8, if_pos h]
theorem up_id {s id p : ByteArray} {M : List Mg} (h8 : ¬ 8 < p.size) (h : chkE s = 0) (hp : pDb s 4 0 = .inr M) (hi : msgIx M id = -1) : up s id p = ([], noBytes, 7, 0) := by
  rw [up, if_neg h8, if_neg (by omega), hp]; simp only; rw [if_pos (by omega)]
theorem up_msg {s id p : ByteArray} {M : List Mg} {k : Nat} (h8 : ¬ 8 < p.size) (h : chkE s = 0) (hp : pDb s 4 0 = .inr M) (hi : msgIx M id = k) : up s id p = upMsg (mAt M k) p := by
  rw [up, if_neg h8, if_neg (by omega), hp]; simp only; rw [if_neg (by omega), hi, Int.toNat_natCast]

/-- What both calls answer. -/
def UpOut (s id p : ByteArray) (e : Ending) (w' : World) : Prop :=
  ∃ u, e = .returned (.tuple #[u, .string (up s id p).2.1, .int .i64 (up s id p).2.2.1, .int .i64 (up s id p).2.2.2]) ∧ IntsAt w' u (up s id p).1

theorem IntsAt_nil (w : World) : IntsAt w (.slice none 0 0) [] := ⟨none, 0, rfl, by simp, by simp, by simp⟩

theorem upOut_err {s id p : ByteArray} {b c : Int} {w : World} (h : up s id p = ([], noBytes, b, c)) : UpOut s id p (.returned (.tuple #[.slice none 0 0, .string { data := #[] }, .int .i64 b, .int .i64 c])) w := by
  rw [UpOut, h]; exact ⟨_, rfl, IntsAt_nil w⟩

theorem upOut_ok {s id p : ByteArray} {l : List Int} {a : ByteArray} {u : Value} {w : World} (h : up s id p = (l, a, 0, 0)) (hu : IntsAt w u l) : UpOut s id p (.returned (.tuple #[u, .string a, .int .i64 0, .int .i64 0])) w := by
  rw [UpOut, h]; exact ⟨_, rfl, hu⟩

set_option maxRecDepth 100000 in
set_option maxHeartbeats 2000000 in
theorem Unpack_any (s id p : ByteArray) (w : World) (hs : s.size ≤ maxLen) (hid : id.size ≤ maxLen) :
    Calls Try.prog 42 #[.string s, .string id, .string p] w fun e w' => UpOut s id p e w' ∧ Below w.heap.size w w' := by
  go_enter Try.func42, Try.ntmps42
  by_cases h8 : 8 < p.size
  · have HU := hide (up_long (s := s) (id := id) h8)
    have h8i : (8 : Int) < (p.size : Int) := by omega
    clear h8
    go_wp2
    exact bodyPost_ret (v := .tuple #[.slice none 0 0, .string { data := #[] }, .int .i64 1, .int .i64 0]) (by simp [results, Try.results42, go_sem]) rfl ⟨upOut_err (unhide HU), Below.refl _ _⟩
  have h8i : ¬ (8 : Int) < (p.size : Int) := by omega
  have H8 := hide h8
  clear h8
  go_wp2_with fail
  refine (soundMessage_any s id _ hs hid).mono ?_
  rintro e w1 ⟨hout, hb1⟩
  have HB1 := hide hb1
  clear hb1
  rcases hout with ⟨hz, rfl⟩ | ⟨hz, M, hpd, hout⟩
  · have HU := hide (up_bad (id := id) (unhide H8) hz)
    have hz2 : (chkE s != 0) = true := by simpa using hz
    clear hz
    go_wp2
    exact bodyPost_ret (v := .tuple #[.slice none 0 0, .string { data := #[] }, .int .i64 (chkE s), .int .i64 (chkP s)]) (by simp [results, Try.results42, go_sem]) rfl ⟨upOut_err (unhide HU), (unhide HB1).alloc (unhide HB1).size _⟩
  rcases hout with ⟨hix, rfl⟩ | ⟨k, sv, hk, hix, rfl, hsv, hmo⟩
  · have HU := hide (up_id (unhide H8) hz hpd hix)
    clear hz hpd hix
    go_wp2
    exact bodyPost_ret (v := .tuple #[.slice none 0 0, .string { data := #[] }, .int .i64 7, .int .i64 0]) (by simp [results, Try.results42, go_sem]) rfl ⟨upOut_err (unhide HU), (unhide HB1).alloc (unhide HB1).size _⟩
  obtain ⟨m, hm⟩ : ∃ m, m = mAt M k := ⟨_, rfl⟩
  have HPK := hide (up_msg (unhide H8) hz hpd hix)
  have HG := hide (good_of hpd hk).2
  have HAF := hide (sound_fits hz hpd hk)
  rw [← hm] at hsv hmo HPK HG HAF
  rw [← hm]
  obtain ⟨va, vcap, rfl⟩ := ownsRow_form hsv
  have HSV := hide hsv
  clear hz hpd hix hsv hmo hm hk
  have HBB : Hid (Below (w1.heap.size + 1) (w1.alloc (.cells #[.int .i64 m.pl, .int .i64 (idNum m.id), .int .i64 m.sz, .slice va m.sigs.length vcap] 82)) (w1.alloc (.cells #[.int .i64 m.pl, .int .i64 (idNum m.id), .int .i64 m.sz, .slice va m.sigs.length vcap] 82))) := hide (Below.refl _ _)
  by_cases hln : (p.size : Int) = m.sz
  · have hl2 : ((p.size : Int) != m.sz) = false := by rw [hln]; simp
    have HU := hide (show up s id p = _ by rw [unhide HPK, upMsg, if_neg (by simpa using hln)])
    clear hln
    go_wp2_with fail
    refine (payloadBits_any p _ (by have := unhide H8; omega)).mono ?_
    rintro e w2 ⟨rfl, rfl⟩
    go_wp2_with fail
    refine (unpackBits_any _ m.sigs _ _ (ownsRow_below (unhide HSV) (box_below (unhide HBB))) (unhide HG) (unhide HAF) (payTo_64 p p.size (by have := unhide H8; omega))).mono ?_
    rintro e w3 ⟨u, rfl, hu, hb3⟩
    have HB3 := hide (box_next (unhide HBB) hb3)
    have HUU := hide hu
    obtain ⟨ua, ucap, rfl, hu1, hu2, hu3⟩ := hu
    clear hb3 hu1 hu2 hu3
    go_wp2
    exact bodyPost_ret (v := .tuple #[.slice ua (valsL m.sigs (payTo p p.size) (choiceN m.sigs (payTo p p.size)) m.sigs.length).length ucap, .string (strOfNums (signsL m.sigs (choiceN m.sigs (payTo p p.size)) m.sigs.length)), .int .i64 0, .int .i64 0]) (by simp [results, Try.results42, go_sem]) rfl ⟨upOut_ok (unhide HU) (unhide HUU), (unhide HB1).trans ((box_below (unhide HB3)).mono (unhide HB1).size)⟩
  · have HU := hide (show up s id p = _ by rw [unhide HPK, upMsg, if_pos hln])
    have hl2 : ((p.size : Int) != m.sz) = true := by rw [bne_iff_ne]; exact hln
    clear hln
    go_wp2
    exact bodyPost_ret (v := .tuple #[.slice none 0 0, .string { data := #[] }, .int .i64 10, .int .i64 0]) (by simp [results, Try.results42, go_sem]) rfl ⟨upOut_err (unhide HU), (unhide HB1).alloc (unhide HB1).size _⟩

set_option maxRecDepth 100000 in
set_option maxHeartbeats 2000000 in
theorem rUnpack_any (s id p : ByteArray) (w : World) (hs : s.size ≤ maxLen) :
    Calls Try.prog 43 #[.string s, .string id, .string p] w fun e w' => UpOut s id p e w' ∧ Below w.heap.size w w' := by
  go_enter Try.func43, Try.ntmps43
  by_cases h320 : 320 < s.size
  · have hsi : (320 : Int) < (s.size : Int) := by omega
    have HU : Hid (up s id p = ([], noBytes, 1, 0)) := hide (by
      by_cases h8 : 8 < p.size
      · exact up_long h8
      · rw [up_bad h8 (by rw [(chk_long h320).1]; omega), (chk_long h320).1, (chk_long h320).2])
    clear h320
    go_wp2
    exact bodyPost_ret (v := .tuple #[.slice none 0 0, .string { data := #[] }, .int .i64 1, .int .i64 0]) (by simp [results, Try.results43, go_sem]) rfl ⟨upOut_err (unhide HU), Below.refl _ _⟩
  have hsi : ¬ (320 : Int) < (s.size : Int) := by omega
  have H320 := hide h320
  clear h320
  by_cases h8 : 8 < p.size
  · have HU := hide (up_long (s := s) (id := id) h8)
    have h8i : (8 : Int) < (p.size : Int) := by omega
    clear h8
    go_wp2
    exact bodyPost_ret (v := .tuple #[.slice none 0 0, .string { data := #[] }, .int .i64 1, .int .i64 0]) (by simp [results, Try.results43, go_sem]) rfl ⟨upOut_err (unhide HU), Below.refl _ _⟩
  have h8i : ¬ (8 : Int) < (p.size : Int) := by omega
  have H8 := hide h8
  clear h8
  go_wp2_with fail
  refine (rCheck_any s _ hs).mono ?_
  rintro e w0 ⟨rfl, hb0⟩
  have HB0 := hide hb0
  clear hb0
  by_cases hzc : chkE s ≠ 0
  · have HU := hide (up_bad (id := id) (unhide H8) hzc)
    have hz2 : (chkE s != 0) = true := by simpa using hzc
    clear hzc
    go_wp2
    exact bodyPost_ret (v := .tuple #[.slice none 0 0, .string { data := #[] }, .int .i64 (chkE s), .int .i64 (chkP s)]) (by simp [results, Try.results43, go_sem]) rfl ⟨upOut_err (unhide HU), unhide HB0⟩
  have hzc0 : chkE s = 0 := by omega
  have hz2 : (chkE s != 0) = false := by rw [hzc0]; rfl
  obtain ⟨M, hpd⟩ : ∃ M, pDb s 4 0 = .inr M := by
    cases hp : pDb s 4 0 with
    | inl p => rw [(chk_text (unhide H320) hp).1] at hzc0; omega
    | inr M => exact ⟨M, rfl⟩
  have HZC := hide hzc0
  have HPD := hide hpd
  clear hzc hzc0 hpd
  go_wp2_with fail
  refine (rFind_any s id M _ (by have := unhide H320; omega) (unhide HPD)).mono ?_
  rintro e w1 ⟨hout, hb1⟩
  have HB1 := hide ((unhide HB0).trans (hb1.mono (unhide HB0).size))
  clear hb1
  rcases hout with ⟨hix, rfl⟩ | ⟨k, sv, hk, hix, rfl, hsv⟩
  · have HU := hide (up_id (unhide H8) (unhide HZC) (unhide HPD) hix)
    clear hix
    go_wp2
    exact bodyPost_ret (v := .tuple #[.slice none 0 0, .string { data := #[] }, .int .i64 7, .int .i64 0]) (by simp [results, Try.results43, go_sem]) rfl ⟨upOut_err (unhide HU), (unhide HB1).alloc (unhide HB1).size _⟩
  obtain ⟨m, hm⟩ : ∃ m, m = mAt M k := ⟨_, rfl⟩
  have HPK := hide (up_msg (unhide H8) (unhide HZC) (unhide HPD) hix)
  have HG := hide (good_of (unhide HPD) hk).2
  have HWI := hide (sound_within (unhide HZC) (unhide HPD) hk)
  rw [← hm] at hsv HPK HG HWI
  rw [← hm]
  obtain ⟨va, vcap, rfl⟩ := ownsRow_form hsv
  have HSV := hide hsv
  clear hix hsv hm hk
  have HBB : Hid (Below (w1.heap.size + 1) (w1.alloc (.cells #[.string m.id, .int .i64 m.sz, .slice va m.sigs.length vcap, .int .i64 m.pl] 50)) (w1.alloc (.cells #[.string m.id, .int .i64 m.sz, .slice va m.sigs.length vcap, .int .i64 m.pl] 50))) := hide (Below.refl _ _)
  by_cases hln : (p.size : Int) = m.sz
  · have hl2 : ((p.size : Int) != m.sz) = false := by rw [hln]; simp
    have HU := hide (show up s id p = _ by rw [unhide HPK, upMsg, if_neg (by simpa using hln)])
    have HW2 : Hid (Within m.sigs p.size) := hide (by rw [hln]; exact unhide HWI)
    clear hln
    go_wp2_with fail
    refine (rUnpacked_any m.id p m.sz m.pl _ m.sigs _ (ownsRow_below (unhide HSV) (box_below (unhide HBB))) (unhide HG) (by have := unhide H8; omega) (unhide HW2)).mono ?_
    rintro e w3 ⟨u, rfl, hu, hb3⟩
    have HB3 := hide (box_next (unhide HBB) hb3)
    have HUU := hide hu
    obtain ⟨ua, ucap, rfl, hu1, hu2, hu3⟩ := hu
    clear hb3 hu1 hu2 hu3
    go_wp2
    exact bodyPost_ret (v := .tuple #[.slice ua (valsL m.sigs (payTo p p.size) (choiceN m.sigs (payTo p p.size)) m.sigs.length).length ucap, .string (strOfNums (signsL m.sigs (choiceN m.sigs (payTo p p.size)) m.sigs.length)), .int .i64 0, .int .i64 0]) (by simp [results, Try.results43, go_sem]) rfl ⟨upOut_ok (unhide HU) (unhide HUU), (unhide HB1).trans ((box_below (unhide HB3)).mono (unhide HB1).size)⟩
  · have HU := hide (show up s id p = _ by rw [unhide HPK, upMsg, if_pos hln])
    have hl2 : ((p.size : Int) != m.sz) = true := by rw [bne_iff_ne]; exact hln
    clear hln
    go_wp2
    exact bodyPost_ret (v := .tuple #[.slice none 0 0, .string { data := #[] }, .int .i64 10, .int .i64 0]) (by simp [results, Try.results43, go_sem]) rfl ⟨upOut_err (unhide HU), (unhide HB1).alloc (unhide HB1).size _⟩

end Go.Proofs.Ytoihlnjcgopdlab

namespace Go.Proofs.Ytoihlnjcgopdlab
open Go.RowKit

theorem place_inj {s : Sg} {i j : Int} (h : place s.st s.ln s.od i = place s.st s.ln s.od j) : i = j := by
  unfold place at h
  split at h
  · omega
  · have h2 : mir (mir (mir s.st + s.ln - 1 - i)) = mir (mir (mir s.st + s.ln - 1 - j)) := by rw [h]
    rw [mir_mir, mir_mir] at h2
    omega

theorem active_meet {a b c : Int} (ha : activeB a c = true) (hb : activeB b c = true) : meetB a b = true := by
  unfold activeB at ha hb
  unfold meetB
  cases h1 : isDigB a with
  | false => simp
  | true =>
    cases h2 : isDigB b with
    | false => simp
    | true =>
      rw [h1] at ha
      rw [h2] at hb
      simp at ha hb
      have : a = b := by omega
      simp [this]

theorem errOf_share {L E : List Sg} {s : Sg} {sz : Int} (h : errOf L E s sz = 0) : anyIx (fun k => shareB (sgAt E k) s && meetB (sgAt E k).rl s.rl) E.length = false := by
  cases e : anyIx (fun k => shareB (sgAt E k) s && meetB (sgAt E k).rl s.rl) E.length with
  | false => rfl
  | true =>
    exfalso
    rw [errOf, e] at h
    split at h
    · omega
    · split at h
      · omega
      · split at h
        · omega
        · split at h
          · omega
          · simp at h

/-- Nothing is wrong with any of these signals. -/
def Sound (L : List Sg) (sz : Int) : Prop := ∀ j, j < L.length → errAt L sz j = 0

theorem apart {L : List Sg} {sz c : Int} (h : Sound L sz) {i k : Nat} (hk : k < L.length) (hik : i < k) (ai : activeB (sgAt L i).rl c = true) (ak : activeB (sgAt L k).rl c = true)
    (a b : Nat) (ha : a < (sgAt L i).ln.toNat) (hb : b < (sgAt L k).ln.toNat) : place (sgAt L i).st (sgAt L i).ln (sgAt L i).od a ≠ place (sgAt L k).st (sgAt L k).ln (sgAt L k).od b := by
  intro he
  have h1 := errOf_share (h k hk)
  have h2 : anyIx (fun j => shareB (sgAt (L.take k) j) (sgAt L k) && meetB (sgAt (L.take k) j).rl (sgAt L k).rl) (L.take k).length = true := by
    rw [anyIx_true]
    refine ⟨i, by simp; omega, ?_⟩
    rw [sgAt_take L k i hik, active_meet ai ak, Bool.and_true, shareB, anyIx_true]
    refine ⟨a, ha, ?_⟩
    rw [anyIx_true]
    exact ⟨b, hb, by simpa using he⟩
  rw [h2] at h1
  cases h1

theorem lay_test (st ln od v : Int) (n q : Nat) : (layTo st ln od v n).testBit q = true ↔ ∃ j, j < n ∧ bitv v j = 1 ∧ (place st ln od j).toNat = q := by
  induction n with
  | zero => simp [layTo]
  | succ n ih =>
    rw [layTo, Nat.testBit_or, Bool.or_eq_true, ih]
    have hb := bitv_lt v n
    constructor
    · rintro (⟨j, hj, h1, h2⟩ | h)
      · exact ⟨j, by omega, h1, h2⟩
      · obtain e | e : bitv v n = 0 ∨ bitv v n = 1 := by omega
        · rw [e] at h; simp at h
        · rw [e, Nat.one_mul, Nat.testBit_two_pow] at h
          exact ⟨n, by omega, e, by simpa using h⟩
    · rintro ⟨j, hj, h1, h2⟩
      by_cases e : j = n
      · subst e
        right
        rw [h1, Nat.one_mul, Nat.testBit_two_pow]
        simpa using h2
      · exact .inl ⟨j, by omega, h1, h2⟩

theorem bits_test (L : List Sg) (Z : List Int) (c : Int) (n q : Nat) : (bitsTo L Z c n).testBit q = true ↔ ∃ k, k < n ∧ activeB (sgAt L k).rl c = true ∧ ∃ j, j < (sgAt L k).ln.toNat ∧ bitv (zAt Z k) j = 1 ∧ (place (sgAt L k).st (sgAt L k).ln (sgAt L k).od j).toNat = q := by
  induction n with
  | zero => simp [bitsTo]
  | succ n ih =>
    rw [bitsTo]
    constructor
    · intro h
      split at h
      · rename_i ha
        rw [Nat.testBit_or, Bool.or_eq_true, ih, lay_test] at h
        rcases h with ⟨k, hk, h⟩ | h
        · exact ⟨k, by omega, h⟩
        · exact ⟨n, by omega, ha, h⟩
      · obtain ⟨k, hk, h⟩ := ih.1 h
        exact ⟨k, by omega, h⟩
    · rintro ⟨k, hk, ha, h⟩
      by_cases e : k = n
      · subst e
        rw [if_pos ha, Nat.testBit_or, Bool.or_eq_true, lay_test]
        exact .inr h
      · have := ih.2 ⟨k, by omega, ha, h⟩
        split
        · rw [Nat.testBit_or, this]; rfl
        · exact this

/-- Each bit of an active signal is laid by it alone. -/
theorem bit_own {L : List Sg} {Z : List Int} {sz c : Int} (hs : Sound L sz) (hg : Good L) {k : Nat} (hk : k < L.length) (ak : activeB (sgAt L k).rl c = true) {j : Nat} (hj : j < (sgAt L k).ln.toNat) :
    bitN (bitsTo L Z c L.length) (place (sgAt L k).st (sgAt L k).ln (sgAt L k).od j).toNat = bitv (zAt Z k) j := by
  have hb := bitv_lt (zAt Z k) j
  rw [bitN_test]
  cases ht : (bitsTo L Z c L.length).testBit (place (sgAt L k).st (sgAt L k).ln (sgAt L k).od j).toNat with
  | true =>
    rw [bits_test] at ht
    obtain ⟨i, hi, ai, a, ha, hv, hp⟩ := ht
    have oki := (hg.2 i hi).1
    have okk := (hg.2 k hk).1
    have p1 := place_lo (sgAt L i).st (sgAt L i).ln (sgAt L i).od a oki.st0 (by omega) (by omega)
    have p2 := place_lo (sgAt L k).st (sgAt L k).ln (sgAt L k).od j okk.st0 (by omega) (by omega)
    have hp' : place (sgAt L i).st (sgAt L i).ln (sgAt L i).od a = place (sgAt L k).st (sgAt L k).ln (sgAt L k).od j := by omega
    rcases Nat.lt_trichotomy i k with hlt | rfl | hlt
    · exact absurd hp' (apart hs hk hlt ai ak a j ha hj)
    · have := place_inj hp'
      have : a = j := by omega
      subst this
      rw [hv]; rfl
    · exact absurd hp'.symm (apart hs hi hlt ak ai j a hj ha)
  | false =>
    have : ¬ bitv (zAt Z k) j = 1 := by
      intro h1
      have h2 := (bits_test L Z c L.length (place (sgAt L k).st (sgAt L k).ln (sgAt L k).od j).toNat).2 ⟨k, hk, ak, j, hj, h1, rfl⟩
      rw [ht] at h2
      cases h2
    simp only [Bool.false_eq_true, if_false]
    omega

theorem heldTo_mod (st ln od : Int) (N x k : Nat) (h : ∀ j, j < k → bitN N (place st ln od j).toNat = x / 2 ^ j % 2) : heldTo st ln od N k = x % 2 ^ k := by
  induction k with
  | zero => simp [heldTo, Nat.mod_one]
  | succ k ih =>
    rw [heldTo, ih (fun j hj => h j (by omega)), h k (by omega), Nat.mod_pow_succ, Nat.mul_comm]

theorem heldV_own {st ln od kd v : Int} {N : Nat} (h0 : 1 ≤ ln) (h1 : ln ≤ 32) (hf : fitsB kd ln v = true) (h : ∀ j, j < ln.toNat → bitN N (place st ln od j).toNat = bitv v j) : heldV st ln od kd N = v := by
  have hb := fitsB_bounds hf
  have hn := fun (j : Nat) (hj : (j : Int) < ln) => natural_bit ln v j h0 h1 hj hb.1 hb.2
  obtain ⟨n0, n1, _⟩ := hn 0 (by omega)
  have hpw := pow_half ln h0
  have hpn : ((2 ^ ln.toNat : Nat) : Int) = 2 * half ln := by rw [← hpw]; simp
  have e : (heldTo st ln od N ln.toNat : Int) = natural ln v := by
    have h2 := heldTo_mod st ln od N (natural ln v).toNat ln.toNat (fun j hj => by
      rw [h j hj]
      have h3 := (hn j (by omega)).2.2
      have e3 : natural ln v = ((natural ln v).toNat : Int) := by omega
      rw [e3] at h3
      have e4 : (((natural ln v).toNat : Nat) : Int) / 2 ^ j % 2 = (((natural ln v).toNat / 2 ^ j % 2 : Nat) : Int) := by simp
      rw [e4] at h3
      omega)
    rw [h2, Nat.mod_eq_of_lt (by omega)]
    omega
  unfold heldV
  rw [e]
  unfold fitsB at hf
  have hp := half_pos ln
  by_cases hv : v < 0
  · have en : natural ln v = v + 2 * half ln := by rw [natural, if_pos hv]
    rw [en]
    split at hf
    · rename_i hk
      simp at hf
      rw [if_pos ⟨hk, by omega⟩]; omega
    · simp at hf; omega
  · have en : natural ln v = v := by rw [natural, if_neg hv]
    rw [en]
    split at hf
    · simp at hf
      rw [if_neg (fun hx => by have := hx.2; omega)]
    · rename_i hk
      rw [if_neg (fun hx => hk hx.1)]

/-- What the payload's text says as a number again. -/
theorem pay_back (B n : Nat) (q : Nat) (hq : q < 8 * n) : bitN (payTo (payB B n) (payB B n).size) q = bitN B q := by
  have hsz : (payB B n).size = n := by rw [payB, strOfNums_size, bytesL_len]
  have hq8 : q / 8 < n := by omega
  rw [hsz, payTo_bit _ _ _ hq8]
  have hb : (bt (payB B n) (q / 8)).toNat = byteOf B (q / 8) := by
    have hl : q / 8 < (payB B n).size := by omega
    rw [← bt_of hl, Int.toNat_natCast]
    have : (payB B n)[q / 8] = UInt8.ofNat ((byteOf B (q / 8) : Int)).toNat := by
      simp [payB, strOfNums, bytesL, ByteArray.getElem_eq_getElem_data]
    rw [this, Int.toNat_natCast, UInt8.toNat_ofNat', Nat.mod_eq_of_lt (byteOf_lt B _)]
  rw [hb]
  have e : byteOf B (q / 8) / 2 ^ (q % 8) % 2 = bitN (byteOf B (q / 8)) (q % 8) := rfl
  rw [e, bitN_test, bitN_test, byteOf_bit, show 8 * (q / 8) + q % 8 = q by omega]
  have : q % 8 < 8 := by omega
  simp [this]

/-- P6, a signal: what is held of what was laid. -/
theorem held_back {L : List Sg} {Z : List Int} {sz c : Int} (hs : Sound L sz) (hg : Good L) (hw : Within L sz) (h0 : 0 ≤ sz) {k : Nat} (hk : k < L.length) (ak : activeB (sgAt L k).rl c = true)
    (hf : fitsB (sgAt L k).kd (sgAt L k).ln (zAt Z k) = true) : held (sgAt L k) (payTo (payB (bitsTo L Z c L.length) sz.toNat) (payB (bitsTo L Z c L.length) sz.toNat).size) = zAt Z k := by
  have ok := (hg.2 k hk).1
  refine heldV_own ok.ln0 ok.ln1 hf (fun j hj => ?_)
  have p1 := place_lo (sgAt L k).st (sgAt L k).ln (sgAt L k).od j ok.st0 (by omega) (by omega)
  have p2 := hw k hk j (by omega)
  rw [pay_back _ _ _ (by omega)]
  exact bit_own hs hg hk ak hj

theorem mux_active {L : List Sg} {x : Nat} (h : (sgAt L x).rl = 77) (c : Int) : activeB (sgAt L x).rl c = true := by
  rw [h]; rfl

theorem choice_back {L : List Sg} {Z : List Int} {sz : Int} (hs : Sound L sz) (hg : Good L) (hw : Within L sz) (h0 : 0 ≤ sz) (hu : firstUn L Z (choiceOf L Z) < 0) :
    choiceN L (payTo (payB (bitsTo L Z (choiceOf L Z) L.length) sz.toNat) (payB (bitsTo L Z (choiceOf L Z) L.length) sz.toNat).size) = choiceOf L Z := by
  rcases mux_range L with hmx | ⟨x, hx, hmx, hr⟩
  · rw [choiceN, choiceOf, hmx]; rfl
  · have ax := mux_active hr (choiceOf L Z)
    have e : choiceOf L Z = zAt Z x := by rw [choiceOf, hmx, if_pos (by omega), Int.toNat_natCast]
    have h2 := held_back hs hg hw h0 hx ax (firstUn_none hu x hx ax)
    rw [choiceN, hmx, if_pos (by omega), Int.toNat_natCast, h2, e]

/-- The values of the active signals, 0 for the others. -/
def backAt (L : List Sg) (Z : List Int) (k : Nat) : Int := if activeB (sgAt L k).rl (choiceOf L Z) then zAt Z k else 0

theorem vals_back {L : List Sg} {Z : List Int} {sz : Int} (hs : Sound L sz) (hg : Good L) (hw : Within L sz) (h0 : 0 ≤ sz) (hu : firstUn L Z (choiceOf L Z) < 0) {k : Nat} (hk : k < L.length) :
    zAt (valsL L (payTo (payB (bitsTo L Z (choiceOf L Z) L.length) sz.toNat) (payB (bitsTo L Z (choiceOf L Z) L.length) sz.toNat).size) (choiceOf L Z) L.length) k = backAt L Z k := by
  rw [zAt, valsL, List.getD_eq_getElem?_getD, List.getElem?_map, List.getElem?_range hk]
  simp only [Option.map_some, Option.getD_some, valN, backAt]
  split
  · rename_i ak
    exact held_back hs hg hw h0 hk ak (firstUn_none hu k hk ak)
  · rfl

end Go.Proofs.Ytoihlnjcgopdlab

namespace Go.Proofs.Ytoihlnjcgopdlab
open Go.RowKit

theorem up_len (s id p : ByteArray) : (up s id p).1.length ≤ 8 := by
  rw [up]
  split
  · simp
  · split
    · simp
    · split
      · simp
      · rename_i M hpd
        split
        · simp
        · rename_i hix
          rcases findIx_cases (fun k => decide ((mAt M k).id = id)) M.length with ⟨hn, _⟩ | ⟨k, hk, hkk, _⟩
          · exact absurd (show msgIx M id < 0 by unfold msgIx; omega) hix
          · have e : msgIx M id = k := hkk
            rw [e, Int.toNat_natCast, upMsg]
            split
            · simp
            · simp only [valsL_len]; exact (good_of hpd hk).1.len

theorem bytes_made (n : Nat) {w : World} {B : Nat} {v : Value} (h : w.ownsRow B 5 1 v n (List.replicate n (.int .u8 0))) :
    (convert 66 9 v).run Try.prog w = .ok (.string (strOfNums (List.replicate n 0))) w :=
  conv_row (xs := List.replicate n 0) (by rw [List.map_replicate]; exact h)

end Go.Proofs.Ytoihlnjcgopdlab

namespace Go.Proofs.Ytoihlnjcgopdlab
open Go.RowKit

theorem pk_ok {s id : ByteArray} {Z : List Int} (h : (pk s id Z).2.1 = 0) : chkE s = 0 ∧ ¬ 320 < s.size ∧ ∃ M k, pDb s 4 0 = .inr M ∧ k < M.length ∧ msgIx M id = (k : Nat) ∧ Z.length = (mAt M k).sigs.length ∧
    firstUn (mAt M k).sigs Z (choiceOf (mAt M k).sigs Z) < 0 ∧ (pk s id Z).1 = payB (bitsTo (mAt M k).sigs Z (choiceOf (mAt M k).sigs Z) (mAt M k).sigs.length) (mAt M k).sz.toNat := by
  have hz : chkE s = 0 := by
    by_cases hz : chkE s = 0
    · exact hz
    · rw [pk_bad hz] at h; exact h
  have hl : ¬ 320 < s.size := by
    intro hl
    rw [(chk_long hl).1] at hz; omega
  refine ⟨hz, hl, ?_⟩
  cases hp : pDb s 4 0 with
  | inl p => rw [(chk_text hl hp).1] at hz; omega
  | inr M =>
    rcases findIx_cases (fun k => decide ((mAt M k).id = id)) M.length with ⟨hn, _⟩ | ⟨k, hk, hkk, _⟩
    · rw [pk_id hz hp hn] at h; simp at h
    · have e : msgIx M id = k := hkk
      have hm := pk_msg (Z := Z) hz hp e
      rw [hm] at h ⊢
      rw [pkMsg] at h
      split at h
      · simp at h
      · rename_i hln
        split at h
        · simp at h
        · rename_i hu
          refine ⟨M, k, rfl, hk, e, by omega, by omega, ?_⟩
          rw [pkMsg, if_neg hln, if_neg hu]

theorem signs_at (L : List Sg) (c : Int) {k : Nat} (h : k < (strOfNums (signsL L c L.length)).size) : ((strOfNums (signsL L c L.length))[k].toNat : Int) = signN L c k := by
  have e : (strOfNums (signsL L c L.length))[k] = UInt8.ofNat (signN L c k).toNat := by
    simp [strOfNums, signsL, ByteArray.getElem_eq_getElem_data]
  rw [e, signN]
  split <;> rfl

/-- P6: what is unpacked of what was packed. -/
theorem up_back {s id : ByteArray} {Z : List Int} {M : List Mg} {k : Nat} (hz : chkE s = 0) (hp : pDb s 4 0 = .inr M) (hk : k < M.length) (hix : msgIx M id = k)
    (hu : firstUn (mAt M k).sigs Z (choiceOf (mAt M k).sigs Z) < 0) :
    ∃ V T, up s id (payB (bitsTo (mAt M k).sigs Z (choiceOf (mAt M k).sigs Z) (mAt M k).sigs.length) (mAt M k).sz.toNat) = (V, T, 0, 0) ∧ V.length = (mAt M k).sigs.length ∧ T.size = (mAt M k).sigs.length ∧
      ∀ j, j < (mAt M k).sigs.length → zAt V j = backAt (mAt M k).sigs Z j ∧ ∀ h : j < T.size, (T[j].toNat : Int) = signN (mAt M k).sigs (choiceOf (mAt M k).sigs Z) j := by
  obtain ⟨ok, hg⟩ := good_of hp hk
  have h0 := ok.sz0
  have h1 := ok.sz1
  have hs : Sound (mAt M k).sigs (mAt M k).sz := fun j hj => sound_at hz hp hk hj
  have hw := sound_within hz hp hk
  have hsz : (payB (bitsTo (mAt M k).sigs Z (choiceOf (mAt M k).sigs Z) (mAt M k).sigs.length) (mAt M k).sz.toNat).size = (mAt M k).sz.toNat := by rw [payB, strOfNums_size, bytesL_len]
  rw [up_msg (by omega) hz hp hix, upMsg, if_neg (by rw [hsz]; omega)]
  rw [choice_back hs hg hw h0 hu]
  refine ⟨_, _, rfl, valsL_len _ _ _ _, by rw [strOfNums_size]; simp [signsL], fun j hj => ⟨vals_back hs hg hw h0 hu hj, fun h => signs_at _ _ h⟩⟩

set_option maxRecDepth 100000 in
set_option maxHeartbeats 1000000 in
theorem lChosen_any (id : ByteArray) (sz pl : Int) (v vz : Value) (L : List Sg) (Z : List Int) (w : World) (h : RSigsAt w v L) (hl : L.length ≤ 8) (hz : IntsAt w vz Z) (hlen : Z.length = L.length) :
    Calls Try.prog 25 #[.agg #[.string id, .int .i64 sz, v, .int .i64 pl], vz] w fun e w' => e = .returned (.int .i64 (choiceOf L Z)) ∧ Below w.heap.size w w' := by
  obtain ⟨za, zcap, rfl, hz1, hz2, hz3⟩ := hz
  have HN := hide hz2
  have HZC := hide hz3
  clear hz2 hz3
  have hle1 : Z.length ≤ L.length := by omega
  have hle2 : L.length ≤ Z.length := by omega
  clear hlen
  rcases h.opened with ⟨rfl, a, c, rfl⟩ | ⟨g, cap, rfl, hg, hcap, _, hc⟩
  · go_enter Try.func25, Try.ntmps25
    go_wp2
    refine wp_loop_rounds 1 ?_
    rw [rounds_succ]
    go_wp2
    go_ret
    exact ⟨ret_int (by simp [choiceOf, muxOf, findIx]), (Below.refl _ _).alloc (Nat.le_refl _) _⟩
  · have HC := hide hc
    clear hc
    go_enter Try.func25, Try.ntmps25
    go_wp2
    go_loop [5] (fun i => ∃ k : Nat, k ≤ L.length ∧ i = .int .i64 k ∧ ∀ j, j < k → decide ((sgAt L j).rl = 77) = false) (fun i => L.length - (intOf i).toNat)
    case atStart => exact ⟨0, by omega, rfl, by intro j hj; omega⟩
    case round =>
      obtain ⟨k, hk, rfl, hno⟩ := hrel
      have HNO := hide hno
      clear hno
      by_cases hlt : k < L.length
      · have hc6 : ∀ o : Obj, (w.alloc o).cell? ⟨g, k * 7 + 5, none⟩ = some (.int .u8 (sgAt L k).rl) := fun o => by rw [alloc_cell hg]; exact (unhide HC) k 5 hlt (by omega)
        by_cases hm : (sgAt L k).rl = 77
        · have hmb : ((sgAt L k).rl == 77) = true := by simp [hm]
          have HM := hide hm
          cases za with
          | none => have := unhide HN rfl; omega
          | some xa =>
            have hzc := fun o : Obj => ints_cell (unhide HZC xa rfl) ((Below.refl w.heap.size w).alloc (Nat.le_refl _) o) (show k < Z.length by omega)
            have hi0 : (0 : Int) ≤ (k : Int) := by omega
            have hi1 : (k : Int) < (Z.length : Int) := by omega
            clear hm
            go_wp2
            go_ret
            exact ⟨ret_int (by
              have hmx : muxOf L = k := by rw [muxOf, findIx_is (unhide HNO) hlt (by simpa using unhide HM)]
              rw [choiceOf, hmx, if_pos (by omega), Int.toNat_natCast]), (Below.refl _ _).alloc (Nat.le_refl _) _⟩
        · have hmb : ((sgAt L k).rl == 77) = false := by simp [hm]
          have HM := hide hm
          clear hm
          go_wp2
          go_round
          case rel => exact ⟨k + 1, by omega, by go_num, fun j hj => by
            by_cases e : j = k
            · subst e; simpa using unhide HM
            · exact unhide HNO j (by omega)⟩
          case measure => simp [intOf]; omega
      · go_wp2
        go_ret
        exact ⟨ret_int (by
          have hmx : muxOf L = -1 := by rw [muxOf, findIx_none (fun j hj => unhide HNO j (by omega))]
          rw [choiceOf, hmx]; rfl), (Below.refl _ _).alloc (Nat.le_refl _) _⟩

end Go.Proofs.Ytoihlnjcgopdlab

namespace Go.Proofs.Ytoihlnjcgopdlab
open Go.RowKit

theorem ix_id {M : List Mg} {id : ByteArray} {k : Nat} (h : msgIx M id = k) : (mAt M k).id = id := by
  rcases findIx_cases (fun k => decide ((mAt M k).id = id)) M.length with ⟨hn, _⟩ | ⟨j, _, hj, h2⟩
  · rw [msgIx, hn] at h; omega
  · rw [msgIx, hj] at h
    obtain rfl : j = k := by omega
    simpa using h2
/-- What has been packed can be framed. -/
theorem pk_frm {s id : ByteArray} {Z : List Int} (h : (pk s id Z).2.1 = 0) : ∃ F, frmOut id (pk s id Z).1 = (F, 0) := by
  obtain ⟨_, _, M, k, hpd, hk, hix, _, _, hpp⟩ := pk_ok h
  have ok := (good_of hpd hk).1
  have e := ix_id hix
  have h0 := ok.sz0
  have h1 := ok.sz1
  have hid := ok.id
  have hg := ok.good
  rw [e] at hid hg
  refine frmOut_ok ?_ hid hg
  rw [hpp, payB, strOfNums_size, bytesL_len]; omega

/-- P14. -/
def sndOut (s id : ByteArray) (Z : List Int) : ByteArray × Int × Int :=
  if (pk s id Z).2.1 ≠ 0 then (noBytes, (pk s id Z).2.1, (pk s id Z).2.2) else ((frmOut id (pk s id Z).1).1, 0, 0)

set_option maxRecDepth 100000 in
set_option maxHeartbeats 1000000 in
theorem Send_any (s id : ByteArray) (vz : Value) (Z : List Int) (w : World) (hs : s.size ≤ maxLen) (hid : id.size ≤ maxLen) (hz : IntsAt w vz Z) :
    Calls Try.prog 18 #[.string s, .string id, vz] w fun e w' => e = .returned (.tuple #[.string (sndOut s id Z).1, .int .i64 (sndOut s id Z).2.1, .int .i64 (sndOut s id Z).2.2]) ∧ Below w.heap.size w w' := by
  have HZ := hide hz
  obtain ⟨za, zcap, rfl, hz1, hz2, hz3⟩ := hz
  clear hz2 hz3
  by_cases he : (pk s id Z).2.1 = 0
  · obtain ⟨F, hF⟩ := pk_frm he
    have HO := hide (pk_eta _ (show sndOut s id Z = (F, 0, 0) by rw [sndOut, if_neg (by simpa using he), hF]))
    have HF := hide hF
    have HE := hide he
    clear he hF
    go_enter Try.func18, Try.ntmps18
    go_wp2_with fail
    refine (Pack_any s id _ Z _ hs hid (unhide HZ)).mono ?_
    rintro e w1 ⟨rfl, hb1⟩
    have HB1 := hide hb1
    clear hb1
    rw [unhide HE]
    generalize hp : (pk s id Z).1 = p at *
    clear hp
    generalize (pk s id Z).2.2 = x3
    go_wp2_with fail
    refine (Frame_any id p _ hid).mono ?_
    rintro e w2 ⟨rfl, hb2⟩
    have HB2 := hide ((unhide HB1).trans (hb2.mono (unhide HB1).size))
    clear hb2
    rw [unhide HF]
    go_wp2
    go_ret3
    exact ⟨by rw [(unhide HO).1, (unhide HO).2.1, (unhide HO).2.2]; rfl, unhide HB2⟩
  · have HO := hide (pk_eta _ (show sndOut s id Z = (noBytes, (pk s id Z).2.1, (pk s id Z).2.2) by rw [sndOut, if_pos he]))
    have hne : ((pk s id Z).2.1 != 0) = true := by simpa using he
    clear he
    go_enter Try.func18, Try.ntmps18
    go_wp2_with fail
    refine (Pack_any s id _ Z _ hs hid (unhide HZ)).mono ?_
    rintro e w1 ⟨rfl, hb1⟩
    have HB1 := hide hb1
    clear hb1
    generalize (pk s id Z).1 = p at *
    generalize (pk s id Z).2.1 = x2 at *
    generalize (pk s id Z).2.2 = x3 at *
    go_wp2
    go_ret3
    exact ⟨by rw [(unhide HO).1, (unhide HO).2.1, (unhide HO).2.2]; rfl, unhide HB1⟩

set_option maxRecDepth 100000 in
set_option maxHeartbeats 1000000 in
theorem rSend_any (s id : ByteArray) (vz : Value) (Z : List Int) (w : World) (hs : s.size ≤ maxLen) (hid : id.size ≤ maxLen) (hz : IntsAt w vz Z) :
    Calls Try.prog 19 #[.string s, .string id, vz] w fun e w' => e = .returned (.tuple #[.string (sndOut s id Z).1, .int .i64 (sndOut s id Z).2.1, .int .i64 (sndOut s id Z).2.2]) ∧ Below w.heap.size w w' := by
  have HZ := hide hz
  obtain ⟨za, zcap, rfl, hz1, hz2, hz3⟩ := hz
  clear hz2 hz3
  by_cases he : (pk s id Z).2.1 = 0
  · obtain ⟨F, hF⟩ := pk_frm he
    have HO := hide (pk_eta _ (show sndOut s id Z = (F, 0, 0) by rw [sndOut, if_neg (by simpa using he), hF]))
    have HF := hide hF
    have HE := hide he
    clear he hF
    go_enter Try.func19, Try.ntmps19
    go_wp2_with fail
    refine (rPack_any s id _ Z _ hs (unhide HZ)).mono ?_
    rintro e w1 ⟨rfl, hb1⟩
    have HB1 := hide hb1
    clear hb1
    rw [unhide HE]
    generalize hp : (pk s id Z).1 = p at *
    clear hp
    generalize (pk s id Z).2.2 = x3
    go_wp2_with fail
    refine (rFrame_any id p _ hid).mono ?_
    rintro e w2 ⟨rfl, hb2⟩
    have HB2 := hide ((unhide HB1).trans (hb2.mono (unhide HB1).size))
    clear hb2
    rw [unhide HF]
    go_wp2
    go_ret3
    exact ⟨by rw [(unhide HO).1, (unhide HO).2.1, (unhide HO).2.2]; rfl, unhide HB2⟩
  · have HO := hide (pk_eta _ (show sndOut s id Z = (noBytes, (pk s id Z).2.1, (pk s id Z).2.2) by rw [sndOut, if_pos he]))
    have hne : ((pk s id Z).2.1 != 0) = true := by simpa using he
    clear he
    go_enter Try.func19, Try.ntmps19
    go_wp2_with fail
    refine (rPack_any s id _ Z _ hs (unhide HZ)).mono ?_
    rintro e w1 ⟨rfl, hb1⟩
    have HB1 := hide hb1
    clear hb1
    generalize (pk s id Z).1 = p at *
    generalize (pk s id Z).2.1 = x2 at *
    generalize (pk s id Z).2.2 = x3 at *
    go_wp2
    go_ret3
    exact ⟨by rw [(unhide HO).1, (unhide HO).2.1, (unhide HO).2.2]; rfl, unhide HB1⟩

end Go.Proofs.Ytoihlnjcgopdlab

namespace Go.Proofs.Ytoihlnjcgopdlab
open Go.RowKit

/-- P15. -/
def rcvOut (s b : ByteArray) : ByteArray × List Int × ByteArray × Int × Int :=
  if 160 < b.size then (noBytes, [], noBytes, 1, 0) else
  if chkE s ≠ 0 then (noBytes, [], noBytes, chkE s, chkP s) else
  if (dfOut b).2.2 ≠ 0 then (noBytes, [], noBytes, (dfOut b).2.2, 0) else
  if (up s (dfOut b).1 (dfOut b).2.1).2.2.1 ≠ 0 then (noBytes, [], noBytes, (up s (dfOut b).1 (dfOut b).2.1).2.2.1, 0)
  else ((dfOut b).1, (up s (dfOut b).1 (dfOut b).2.1).1, (up s (dfOut b).1 (dfOut b).2.1).2.1, 0, 0)
theorem up_place {s id p : ByteArray} (hz : chkE s = 0) : (up s id p).2.2.2 = 0 := by
  rw [up]
  split
  · rfl
  · rw [if_neg (by omega)]
    cases pDb s 4 0 with
    | inl _ => rfl
    | inr M =>
      simp only
      split
      · rfl
      · rw [upMsg]; split <;> rfl
/-- What both calls answer. -/
def RcvOut (s b : ByteArray) (e : Ending) (w' : World) : Prop :=
  ∃ u, e = .returned (.tuple #[.string (rcvOut s b).1, u, .string (rcvOut s b).2.2.1, .int .i64 (rcvOut s b).2.2.2.1, .int .i64 (rcvOut s b).2.2.2.2]) ∧ IntsAt w' u (rcvOut s b).2.1
theorem rcv_err {s b : ByteArray} {x y : Int} {w : World} (h : rcvOut s b = (noBytes, [], noBytes, x, y)) : RcvOut s b (.returned (.tuple #[.string { data := #[] }, .slice none 0 0, .string { data := #[] }, .int .i64 x, .int .i64 y])) w := by
  rw [RcvOut, h]; exact ⟨_, rfl, IntsAt_nil w⟩
theorem rcv_ok {s b id : ByteArray} {l : List Int} {t : ByteArray} {u : Value} {w : World} (h : rcvOut s b = (id, l, t, 0, 0)) (hu : IntsAt w u l) : RcvOut s b (.returned (.tuple #[.string id, u, .string t, .int .i64 0, .int .i64 0])) w := by
  rw [RcvOut, h]; exact ⟨_, rfl, hu⟩

set_option maxRecDepth 100000 in
set_option maxHeartbeats 2000000 in
theorem Receive_any (s b : ByteArray) (w : World) (hs : s.size ≤ maxLen) :
    Calls Try.prog 20 #[.string s, .string b] w fun e w' => RcvOut s b e w' ∧ Below w.heap.size w w' := by
  go_enter Try.func20, Try.ntmps20
  by_cases hl : 160 < b.size
  · have HR := hide (show rcvOut s b = (noBytes, [], noBytes, 1, 0) by rw [rcvOut, if_pos hl])
    have hli : (160 : Int) < (b.size : Int) := by omega
    clear hl
    go_wp2
    exact bodyPost_ret (v := .tuple #[.string { data := #[] }, .slice none 0 0, .string { data := #[] }, .int .i64 1, .int .i64 0]) (by simp [results, Try.results20, go_sem]) rfl ⟨rcv_err (unhide HR), Below.refl _ _⟩
  have hli : ¬ (160 : Int) < (b.size : Int) := by omega
  have HL := hide hl
  clear hl
  go_wp2_with fail
  refine (Check_any s _ hs).mono ?_
  rintro e w1 ⟨rfl, hb1⟩
  have HB1 := hide hb1
  clear hb1
  by_cases hz : chkE s = 0
  case neg =>
    have HR := hide (show rcvOut s b = (noBytes, [], noBytes, chkE s, chkP s) by rw [rcvOut, if_neg (unhide HL), if_pos hz])
    have hz2 : (chkE s != 0) = true := by simpa using hz
    clear hz
    go_wp2
    exact bodyPost_ret (v := .tuple #[.string { data := #[] }, .slice none 0 0, .string { data := #[] }, .int .i64 (chkE s), .int .i64 (chkP s)]) (by simp [results, Try.results20, go_sem]) rfl ⟨rcv_err (unhide HR), unhide HB1⟩
  have HZ := hide hz
  rw [hz]
  clear hz
  generalize chkP s = y0
  go_wp2_with fail
  refine (Deframe_any b _).mono ?_
  rintro e w2 ⟨rfl, hb2⟩
  have HB2 := hide ((unhide HB1).trans (hb2.mono (unhide HB1).size))
  clear hb2
  by_cases hd : (dfOut b).2.2 = 0
  case neg =>
    have HR := hide (show rcvOut s b = (noBytes, [], noBytes, (dfOut b).2.2, 0) by rw [rcvOut, if_neg (unhide HL), if_neg (by simpa using unhide HZ), if_pos hd])
    have hd2 : ((dfOut b).2.2 != 0) = true := by simpa using hd
    clear hd
    generalize (dfOut b).1 = z1 at *
    generalize (dfOut b).2.1 = z2 at *
    generalize (dfOut b).2.2 = z3 at *
    go_wp2
    exact bodyPost_ret (v := .tuple #[.string { data := #[] }, .slice none 0 0, .string { data := #[] }, .int .i64 z3, .int .i64 0]) (by simp [results, Try.results20, go_sem]) rfl ⟨rcv_err (unhide HR), unhide HB2⟩
  obtain ⟨id, hid⟩ : ∃ id, id = (dfOut b).1 := ⟨_, rfl⟩
  obtain ⟨p, hp⟩ : ∃ p, p = (dfOut b).2.1 := ⟨_, rfl⟩
  have hfr := frm_of_df (s := b) (a := id) (p := p) (by rw [hid, hp, ← hd])
  obtain ⟨hi3, hp8⟩ := frm_sizes hfr
  have HU := hide (up_place (id := id) (p := p) (unhide HZ))
  have HR0 := hide (show rcvOut s b = if (up s id p).2.2.1 ≠ 0 then (noBytes, [], noBytes, (up s id p).2.2.1, 0) else (id, (up s id p).1, (up s id p).2.1, 0, 0) by rw [rcvOut, if_neg (unhide HL), if_neg (by simpa using unhide HZ), if_neg (by simpa using hd), hid, hp])
  rw [← hid, ← hp, hd]
  clear hid hp hd hfr
  go_wp2_with fail
  refine (Unpack_any s id p _ hs (by unfold maxLen; omega)).mono ?_
  rintro e w3 ⟨⟨u, rfl, hu⟩, hb3⟩
  have HB3 := hide ((unhide HB2).trans (hb3.mono (unhide HB2).size))
  have HUU := hide hu
  obtain ⟨ua, ucap, rfl, hu1, hu2, hu3⟩ := hu
  clear hb3 hu1 hu2 hu3
  rw [unhide HU]
  by_cases he : (up s id p).2.2.1 = 0
  · have HR := hide (show rcvOut s b = (id, (up s id p).1, (up s id p).2.1, 0, 0) by rw [unhide HR0, if_neg (by simpa using he)])
    rw [he]
    clear he HR0 HU
    generalize (up s id p).2.1 = t at *
    generalize (up s id p).1 = l at *
    go_wp2
    exact bodyPost_ret (v := .tuple #[.string id, .slice ua l.length ucap, .string t, .int .i64 0, .int .i64 0]) (by simp [results, Try.results20, go_sem]) rfl ⟨rcv_ok (unhide HR) (unhide HUU), unhide HB3⟩
  · have HR := hide (show rcvOut s b = (noBytes, [], noBytes, (up s id p).2.2.1, 0) by rw [unhide HR0, if_pos he])
    have he2 : ((up s id p).2.2.1 != 0) = true := by simpa using he
    clear he HR0 HU
    generalize (up s id p).2.1 = t at *
    generalize (up s id p).2.2.1 = x at *
    generalize (up s id p).1 = l at *
    go_wp2
    exact bodyPost_ret (v := .tuple #[.string { data := #[] }, .slice none 0 0, .string { data := #[] }, .int .i64 x, .int .i64 0]) (by simp [results, Try.results20, go_sem]) rfl ⟨rcv_err (unhide HR), unhide HB3⟩

set_option maxRecDepth 100000 in
set_option maxHeartbeats 2000000 in
theorem rReceive_any (s b : ByteArray) (w : World) (hs : s.size ≤ maxLen) (hb : b.size ≤ maxLen) :
    Calls Try.prog 21 #[.string s, .string b] w fun e w' => RcvOut s b e w' ∧ Below w.heap.size w w' := by
  go_enter Try.func21, Try.ntmps21
  by_cases h320 : 320 < s.size
  · have HR := hide (show rcvOut s b = (noBytes, [], noBytes, 1, 0) by
      by_cases hl : 160 < b.size
      · rw [rcvOut, if_pos hl]
      · rw [rcvOut, if_neg hl, if_pos (by rw [(chk_long h320).1]; omega), (chk_long h320).1, (chk_long h320).2])
    have hsi : (320 : Int) < (s.size : Int) := by omega
    clear h320
    go_wp2
    exact bodyPost_ret (v := .tuple #[.string { data := #[] }, .slice none 0 0, .string { data := #[] }, .int .i64 1, .int .i64 0]) (by simp [results, Try.results21, go_sem]) rfl ⟨rcv_err (unhide HR), Below.refl _ _⟩
  have hsi : ¬ (320 : Int) < (s.size : Int) := by omega
  clear h320
  by_cases hl : 160 < b.size
  · have HR := hide (show rcvOut s b = (noBytes, [], noBytes, 1, 0) by rw [rcvOut, if_pos hl])
    have hli : (160 : Int) < (b.size : Int) := by omega
    clear hl
    go_wp2
    exact bodyPost_ret (v := .tuple #[.string { data := #[] }, .slice none 0 0, .string { data := #[] }, .int .i64 1, .int .i64 0]) (by simp [results, Try.results21, go_sem]) rfl ⟨rcv_err (unhide HR), Below.refl _ _⟩
  have hli : ¬ (160 : Int) < (b.size : Int) := by omega
  have HL := hide hl
  clear hl
  go_wp2_with fail
  refine (rCheck_any s _ hs).mono ?_
  rintro e w1 ⟨rfl, hb1⟩
  have HB1 := hide hb1
  clear hb1
  by_cases hz : chkE s = 0
  case neg =>
    have HR := hide (show rcvOut s b = (noBytes, [], noBytes, chkE s, chkP s) by rw [rcvOut, if_neg (unhide HL), if_pos hz])
    have hz2 : (chkE s != 0) = true := by simpa using hz
    clear hz
    go_wp2
    exact bodyPost_ret (v := .tuple #[.string { data := #[] }, .slice none 0 0, .string { data := #[] }, .int .i64 (chkE s), .int .i64 (chkP s)]) (by simp [results, Try.results21, go_sem]) rfl ⟨rcv_err (unhide HR), unhide HB1⟩
  have HZ := hide hz
  rw [hz]
  clear hz
  generalize chkP s = y0
  go_wp2_with fail
  refine (rDeframe_any b _ hb).mono ?_
  rintro e w2 ⟨rfl, hb2⟩
  have HB2 := hide ((unhide HB1).trans (hb2.mono (unhide HB1).size))
  clear hb2
  by_cases hd : (dfOut b).2.2 = 0
  case neg =>
    have HR := hide (show rcvOut s b = (noBytes, [], noBytes, (dfOut b).2.2, 0) by rw [rcvOut, if_neg (unhide HL), if_neg (by simpa using unhide HZ), if_pos hd])
    have hd2 : ((dfOut b).2.2 != 0) = true := by simpa using hd
    clear hd
    generalize (dfOut b).1 = z1 at *
    generalize (dfOut b).2.1 = z2 at *
    generalize (dfOut b).2.2 = z3 at *
    go_wp2
    exact bodyPost_ret (v := .tuple #[.string { data := #[] }, .slice none 0 0, .string { data := #[] }, .int .i64 z3, .int .i64 0]) (by simp [results, Try.results21, go_sem]) rfl ⟨rcv_err (unhide HR), unhide HB2⟩
  obtain ⟨id, hid⟩ : ∃ id, id = (dfOut b).1 := ⟨_, rfl⟩
  obtain ⟨p, hp⟩ : ∃ p, p = (dfOut b).2.1 := ⟨_, rfl⟩
  have HR0 := hide (show rcvOut s b = if (up s id p).2.2.1 ≠ 0 then (noBytes, [], noBytes, (up s id p).2.2.1, 0) else (id, (up s id p).1, (up s id p).2.1, 0, 0) by rw [rcvOut, if_neg (unhide HL), if_neg (by simpa using unhide HZ), if_neg (by simpa using hd), hid, hp])
  rw [← hid, ← hp, hd]
  clear hid hp hd
  go_wp2_with fail
  refine (rUnpack_any s id p _ hs).mono ?_
  rintro e w3 ⟨⟨u, rfl, hu⟩, hb3⟩
  have HB3 := hide ((unhide HB2).trans (hb3.mono (unhide HB2).size))
  have HUU := hide hu
  obtain ⟨ua, ucap, rfl, hu1, hu2, hu3⟩ := hu
  clear hb3 hu1 hu2 hu3
  generalize (up s id p).2.2.2 = y1
  by_cases he : (up s id p).2.2.1 = 0
  · have HR := hide (show rcvOut s b = (id, (up s id p).1, (up s id p).2.1, 0, 0) by rw [unhide HR0, if_neg (by simpa using he)])
    rw [he]
    clear he HR0
    generalize (up s id p).2.1 = t at *
    generalize (up s id p).1 = l at *
    go_wp2
    exact bodyPost_ret (v := .tuple #[.string id, .slice ua l.length ucap, .string t, .int .i64 0, .int .i64 0]) (by simp [results, Try.results21, go_sem]) rfl ⟨rcv_ok (unhide HR) (unhide HUU), unhide HB3⟩
  · have HR := hide (show rcvOut s b = (noBytes, [], noBytes, (up s id p).2.2.1, 0) by rw [unhide HR0, if_pos he])
    have he2 : ((up s id p).2.2.1 != 0) = true := by simpa using he
    clear he HR0
    generalize (up s id p).2.1 = t at *
    generalize (up s id p).2.2.1 = x at *
    generalize (up s id p).1 = l at *
    go_wp2
    exact bodyPost_ret (v := .tuple #[.string { data := #[] }, .slice none 0 0, .string { data := #[] }, .int .i64 x, .int .i64 0]) (by simp [results, Try.results21, go_sem]) rfl ⟨rcv_err (unhide HR), unhide HB3⟩

end Go.Proofs.Ytoihlnjcgopdlab

namespace Go.Proofs.Ytoihlnjcgopdlab
open Go.RowKit

set_option maxRecDepth 100000 in
set_option maxHeartbeats 1000000 in
theorem Sends_any (s id : ByteArray) (v : Value) (Z : List Int) (w : World) (hs : s.size ≤ maxLen) (hid : id.size ≤ maxLen) (hz : IntsAt w v Z) (hr : Z.length * 8 ≤ 140737488351232) :
    Calls Try.prog 7 #[.string s, .string id, v] w fun e w' => e = .returned (.bool true) ∧ Below w.heap.size w w' := by
  have HZ := hide hz
  obtain ⟨za, zcap, rfl, hz1, hz2, hz3⟩ := hz
  clear hz2 hz3
  go_enter Try.func7, Try.ntmps7
  go_wp2_with fail
  refine (copied_any _ Z _ (unhide HZ) hr).mono ?_
  rintro e w1 ⟨u, rfl, hu, hb1⟩
  have HU := hide hu
  have HB1 := hide hb1
  obtain ⟨ua, ucap, rfl, hu1, hu2, hu3⟩ := hu
  clear hu2 hu3 hb1
  go_wp2_with fail
  refine (Send_any s id _ Z _ hs hid (unhide HU)).mono ?_
  rintro e w2 ⟨rfl, hb2⟩
  have HB2 := hide ((unhide HB1).trans (hb2.mono (unhide HB1).size))
  clear hb2
  go_wp2_with fail
  refine (rSend_any s id _ Z _ hs hid ((unhide HZ).below (unhide HB2))).mono ?_
  rintro e w3 ⟨rfl, hb3⟩
  have HB3 := hide ((unhide HB2).trans (hb3.mono (unhide HB2).size))
  clear hb3
  generalize (sndOut s id Z).1 = x1
  generalize (sndOut s id Z).2.1 = x2
  generalize (sndOut s id Z).2.2 = x3
  go_wp2_with (go_at_call 13; refine (num_any _ _).mono ?_; rintro e w' ⟨rfl, rfl⟩)
  go_ret
  exact ⟨rfl, unhide HB3⟩

theorem rcv_len (s b : ByteArray) : (rcvOut s b).2.1.length ≤ 8 := by
  rw [rcvOut]
  split
  · simp
  · split
    · simp
    · split
      · simp
      · split
        · simp
        · exact up_len _ _ _

set_option maxRecDepth 100000 in
set_option maxHeartbeats 1000000 in
theorem Receives_any (s b : ByteArray) (w : World) (hs : s.size ≤ maxLen) (hb : b.size ≤ maxLen) :
    Calls Try.prog 8 #[.string s, .string b] w fun e w' => e = .returned (.bool true) ∧ Below w.heap.size w w' := by
  go_enter Try.func8, Try.ntmps8
  go_wp2_with fail
  refine (Receive_any s b _ hs).mono ?_
  rintro e w1 ⟨⟨u, rfl, hu⟩, hb1⟩
  have HB1 := hide hb1
  have HU := hide hu
  obtain ⟨ua, ucap, rfl, hu1, hu2, hu3⟩ := hu
  clear hu1 hu2 hu3 hb1
  go_wp2_with fail
  refine (rReceive_any s b _ hs hb).mono ?_
  rintro e w2 ⟨⟨x, rfl, hx⟩, hb2⟩
  have HB2 := hide hb2
  have HX := hide hx
  obtain ⟨xa, xcap, rfl, hx1, hx2, hx3⟩ := hx
  clear hx1 hx2 hx3 hb2
  go_wp2_with fail
  refine (Same_any _ _ (rcvOut s b).2.1 _ ((unhide HU).below (unhide HB2)) (unhide HX) (by have := rcv_len s b; omega)).mono ?_
  rintro e w3 ⟨rfl, hb3⟩
  have HB3 := hide ((unhide HB1).trans (((unhide HB2).trans (hb3.mono (unhide HB2).size)).mono (unhide HB1).size))
  clear hb3 HU HX HB1 HB2
  generalize (rcvOut s b).1 = x0
  generalize (rcvOut s b).2.2.1 = x1
  generalize (rcvOut s b).2.2.2.1 = x2
  generalize (rcvOut s b).2.2.2.2 = x3
  go_wp2_with (go_at_call 13; refine (num_any _ _).mono ?_; rintro e w' ⟨rfl, rfl⟩)
  go_ret
  exact ⟨rfl, unhide HB3⟩

/-- What is received of what was sent. -/
theorem rcv_back {s id F : ByteArray} {p : ByteArray} {V : List Int} {T : ByteArray} (hz : chkE s = 0) (hF : frmOut id p = (F, 0)) (hu : up s id p = (V, T, 0, 0)) : rcvOut s F = (id, V, T, 0, 0) := by
  have hd := df_of_frm hF
  have hl : ¬ 160 < F.size := by
    intro h
    rw [dfOut_long h] at hd; simp at hd
  rw [rcvOut, if_neg hl, if_neg (by simpa using hz), hd, if_neg (by simp), hu, if_neg (by simp)]

set_option maxRecDepth 100000 in
set_option maxHeartbeats 3000000 in
theorem Carried_any (s id : ByteArray) (v : Value) (Z : List Int) (w : World) (hs : s.size ≤ maxLen) (hid : id.size ≤ maxLen) (hz : IntsAt w v Z) (hr : Z.length * 8 ≤ 140737488351232) :
    Calls Try.prog 9 #[.string s, .string id, v] w fun e w' => e = .returned (.bool true) ∧ Below w.heap.size w w' := by
  have HZ := hide hz
  obtain ⟨za, zcap, rfl, hz1, hz2, hz3⟩ := hz
  have HZ2 := hide hz2
  have HZ3 := hide hz3
  clear hz2 hz3
  go_enter Try.func9, Try.ntmps9
  go_wp2_with fail
  refine (copied_any _ Z _ (unhide HZ) hr).mono ?_
  rintro e w1 ⟨u, rfl, hu, hb1⟩
  have HU := hide hu
  have HB1 := hide hb1
  obtain ⟨ua, ucap, rfl, hu1, hu2, hu3⟩ := hu
  clear hu2 hu3 hb1 hu1
  go_wp2_with fail
  refine (Send_any s id _ Z _ hs hid (unhide HU)).mono ?_
  rintro e w2 ⟨rfl, hb2⟩
  have HB2 := hide ((unhide HB1).trans (hb2.mono (unhide HB1).size))
  clear hb2
  go_wp2_with fail
  refine (rCheck_any s _ hs).mono ?_
  rintro e w3 ⟨rfl, hb3⟩
  have HB3 := hide ((unhide HB2).trans (hb3.mono (unhide HB2).size))
  clear hb3
  by_cases hpe : (pk s id Z).2.1 = 0
  case neg =>
    have hne : ((sndOut s id Z).2.1 != 0) = true := by rw [sndOut, if_pos hpe]; simpa using hpe
    clear hpe
    generalize (sndOut s id Z).1 = x1 at *
    generalize (sndOut s id Z).2.1 = x2 at *
    generalize (sndOut s id Z).2.2 = x3 at *
    go_wp2_with (go_at_call 13; refine (num_any _ _).mono ?_; rintro e w' ⟨rfl, rfl⟩)
    go_ret
    exact ⟨rfl, unhide HB3⟩
  obtain ⟨F, hF⟩ := pk_frm hpe
  have hsnd : sndOut s id Z = (F, 0, 0) := by rw [sndOut, if_neg (by simpa using hpe), hF]
  obtain ⟨hzc, hl320, M, k, hpd, hk, hix, hlen, hun, hpp⟩ := pk_ok hpe
  obtain ⟨V, T, hup, hVl, hTl, hVT⟩ := up_back (Z := Z) hzc hpd hk hix hun
  obtain ⟨ok, hg⟩ := good_of hpd hk
  rw [← hpp] at hup
  have HRC := hide (rcv_back hzc hF hup)
  rw [hsnd, hzc]
  have HPD := hide hpd
  have HIX := hide hix
  have HVT := hide hVT
  have HG := hide hg
  have HLEN := hide hlen
  have HVL := hide hVl
  have hlen8 := ok.len
  have H320 := hide hl320
  have HK := hide hk
  clear hpe hzc hpd hix hun hpp hup hVT hg ok hl320 hlen hVl hk hF hsnd
  go_wp2_with (go_at_call 13; refine (num_any _ _).mono ?_; rintro e w' ⟨rfl, rfl⟩)
  refine (rFind_any s id M _ (by have := unhide H320; omega) (unhide HPD)).mono ?_
  rintro e w4 ⟨hout, hb4⟩
  have HB4 := hide ((unhide HB3).trans (hb4.mono (unhide HB3).size))
  clear hb4
  rcases hout with ⟨hix', rfl⟩ | ⟨k', sv, hk', hix', rfl, hsv⟩
  · have := unhide HIX; omega
  obtain rfl : k' = k := by have := unhide HIX; omega
  obtain ⟨m, hm⟩ : ∃ m, m = mAt M k' := ⟨_, rfl⟩
  rw [← hm] at hsv HG HVT HLEN HVL hTl hlen8
  rw [← hm]
  have HSV := hide hsv
  obtain ⟨va, vcap, rfl⟩ := ownsRow_form hsv
  clear hsv hix' hk' hm
  have hbox := fun (wx : World) (h : Below (w4.heap.size + 1) (w4.alloc (.cells #[.string m.id, .int .i64 m.sz, .slice va m.sigs.length vcap, .int .i64 m.pl] 50)) wx) => box_cell h
  have HB5 : Hid (Below (w4.heap.size + 1) (w4.alloc (.cells #[.string m.id, .int .i64 m.sz, .slice va m.sigs.length vcap, .int .i64 m.pl] 50)) (w4.alloc (.cells #[.string m.id, .int .i64 m.sz, .slice va m.sigs.length vcap, .int .i64 m.pl] 50))) := hide (Below.refl _ _)
  go_wp2_with fail
  refine (Receive_any s F _ hs).mono ?_
  rintro e w6 ⟨⟨x, rfl, hx⟩, hb6⟩
  rw [unhide HRC] at hx
  rw [unhide HRC]
  dsimp only at hx ⊢
  have HX := hide hx
  have HB6 := hide (box_next (unhide HB5) hb6)
  have hbw6 := hbox _ (unhide HB6)
  obtain ⟨xa, xcap, rfl, hx1, hx2, hx3⟩ := hx
  have HX2 := hide hx2
  have HX3 := hide hx3
  clear hb6 hx2 hx3
  have hq1 : ((Z.length : Int) != (m.sigs.length : Int)) = false := by rw [unhide HLEN]; simp
  have hq2 : ((V.length : Int) != (m.sigs.length : Int)) = false := by rw [unhide HVL]; simp
  have hq3 : ((T.size : Int) != (m.sigs.length : Int)) = false := by rw [hTl]; simp
  have hle1 : m.sigs.length ≤ Z.length := by have := unhide HLEN; omega
  have hle2 : m.sigs.length ≤ V.length := by have := unhide HVL; omega
  have hle3 : m.sigs.length ≤ T.size := by omega
  have hle4 : V.length ≤ m.sigs.length := by have := unhide HVL; omega
  clear hTl
  go_wp2_with (go_at_call 13; refine (num_any _ _).mono ?_; rintro e w' ⟨rfl, rfl⟩)
  refine (lChosen_any m.id m.sz m.pl _ _ m.sigs Z _ (ownsRow_below (unhide HSV) (box_below (unhide HB6))) hlen8 ((unhide HZ).below ((unhide HB4).trans ((box_below (unhide HB6)).mono (unhide HB4).size))) (unhide HLEN)).mono ?_
  rintro e w7 ⟨rfl, hb7⟩
  have HB7 := hide hb7
  clear hb7 hbw6
  obtain ⟨c, HCC⟩ : ∃ c, Hid (c = choiceOf m.sigs Z) := ⟨_, hide rfl⟩
  rw [← unhide HCC]
  have hcz := fun (wx : World) (h : Below w6.heap.size w6 wx) => hbox _ (box_next (unhide HB6) h)
  go_wp2
  go_loopw [21, 22] (fun i _ wr => ∃ n : Nat, n ≤ m.sigs.length ∧ i = .int .i64 n ∧ Below w6.heap.size w6 wr) (fun i _ _ => m.sigs.length - (intOf i).toNat)
  case atStart => exact ⟨0, by omega, rfl, unhide HB7⟩
  case round =>
    obtain ⟨n, hn, rfl, hb⟩ := hrel
    have HB := hide hb
    have hbw := hcz _ hb
    clear hb
    by_cases hlt : n < m.sigs.length
    · obtain ⟨_, r0, r1⟩ := (unhide HG).2 n hlt
      obtain ⟨hv1, ht1⟩ := unhide HVT n hlt
      have hi0 : (0 : Int) ≤ (n : Int) := by omega
      have hi1 : (n : Int) < (m.sigs.length : Int) := by omega
      have hi2 : (n : Int) < (Z.length : Int) := by omega
      have hi3 : (n : Int) < (V.length : Int) := by omega
      have hi4 : (n : Int) < (T.size : Int) := by omega
      have hi5 : n < T.size := by omega
      have HV1 := hide hv1
      have HT1 := hide (ht1 hi5)
      clear hv1 ht1
      go_wp2_with fail
      refine (rActive_any m.id m.sz m.pl _ m.sigs n c _ (ownsRow_below (unhide HSV) (box_below (box_next (unhide HB6) (unhide HB)))) hlen8 hlt r0 r1).mono ?_
      rintro e w8 ⟨rfl, hb8⟩
      have hb8' := (unhide HB).trans (hb8.mono (unhide HB).size)
      have HB8 := hide hb8'
      clear hb8 hbw
      cases xa with
      | none => have := unhide HX2 rfl; omega
      | some xx =>
      cases za with
      | none => have := unhide HZ2 rfl; omega
      | some zz =>
      have hcx := fun (wx : World) (h : Below w6.heap.size w6 wx) => ints_cell (unhide HZ3 zz rfl) ((unhide HB4).trans ((box_below (box_next (unhide HB6) h)).mono (unhide HB4).size)) (show n < Z.length by omega)
      have hcv := fun (wx : World) (h : Below w6.heap.size w6 wx) => ints_cell (unhide HX3 xx rfl) h (show n < V.length by omega)
      cases hac : activeB (sgAt m.sigs n).rl c with
      | false =>
        have hvz : zAt V n = 0 := by rw [unhide HV1, backAt, ← unhide HCC, hac]; rfl
        have htt : (T[n].toNat : Int) = 45 := by rw [unhide HT1, signN, ← unhide HCC, hac]; rfl
        rw [hvz] at hcv
        have hte : ((T[n].toNat : Int) == 43) = false := by rw [htt]; rfl
        clear htt hvz hcx
        go_wp2
        refine wp_region_noPanic ?_
        refine wp_region_held_drew (S := fun w' => Below w6.heap.size w6 w') (by kernel_rfl) hb8'.drew (fun hHeld => ?_)
        refine wpAnyH_take (i := 0) (v := ?_) (at_list rfl) (by kernel_rfl) (by kernel_rfl) (by kernel_rfl) (fun _ _ _ h => h) (Or.inl ⟨by rfl, ?_⟩) (by assumption) ?_
        rotate_left
        · intro w hSw; (try dsimp only at hSw); first | (go_simp; done) | (go_simp; with_reducible rfl)
        try simp only [Act.put]
        try simp only [List.setIfInBounds_toArray]
        try simp only [List.set_cons_succ]
        try simp only [List.set_cons_zero]
        refine wpAnyH_take (i := 1) (v := ?_) (at_list rfl) (by kernel_rfl) (by kernel_rfl) (by kernel_rfl) (fun _ _ _ h => h) (Or.inl ⟨by rfl, ?_⟩) (by assumption) ?_
        rotate_left
        · intro w hSw; (try dsimp only at hSw); first | (go_simp; done) | (go_simp; with_reducible rfl)
        try simp only [Act.put]
        try simp only [List.setIfInBounds_toArray]
        try simp only [List.set_cons_succ]
        try simp only [List.set_cons_zero]
        refine wpAnyH_take (i := 2) (v := ?_) (at_list rfl) (by kernel_rfl) (by kernel_rfl) (by kernel_rfl) (fun _ _ _ h => h) (Or.inl ⟨by rfl, ?_⟩) (by assumption) ?_
        rotate_left
        · intro w hSw; (try dsimp only at hSw); first | (go_simp; done) | (go_simp; with_reducible rfl)
        try simp only [Act.put]
        try simp only [List.setIfInBounds_toArray]
        try simp only [List.set_cons_succ]
        try simp only [List.set_cons_zero]
        refine wpAnyH_take (i := 3) (v := ?_) (at_list rfl) (by kernel_rfl) (by kernel_rfl) (by kernel_rfl) (fun _ _ _ h => h) (Or.inl ⟨by rfl, ?_⟩) (by assumption) ?_
        rotate_left
        · intro w hSw; (try dsimp only at hSw); first | (go_simp; done) | (go_simp; with_reducible rfl)
        try simp only [Act.put]
        try simp only [List.setIfInBounds_toArray]
        try simp only [List.set_cons_succ]
        try simp only [List.set_cons_zero]
        refine wpAnyH_take (i := 4) (v := ?_) (at_list rfl) (by kernel_rfl) (by kernel_rfl) (by kernel_rfl) (fun _ _ _ h => h) (Or.inl ⟨by rfl, ?_⟩) (by assumption) ?_
        rotate_left
        · intro w hSw; (try dsimp only at hSw); first | (go_simp; done) | (go_simp; with_reducible rfl)
        try simp only [Act.put]
        try simp only [List.setIfInBounds_toArray]
        try simp only [List.set_cons_succ]
        try simp only [List.set_cons_zero]
        refine wpAnyH_take (i := 5) (v := ?_) (at_list rfl) (by kernel_rfl) (by kernel_rfl) (by kernel_rfl) (fun _ _ _ h => h) (Or.inl ⟨by rfl, ?_⟩) (by assumption) ?_
        rotate_left
        · intro w hSw; (try dsimp only at hSw); first | (go_simp; done) | (go_simp; with_reducible rfl)
        try simp only [Act.put]
        try simp only [List.setIfInBounds_toArray]
        try simp only [List.set_cons_succ]
        try simp only [List.set_cons_zero]
        refine wpAnyH_take (i := 6) (v := ?_) (at_list rfl) (by kernel_rfl) (by kernel_rfl) (by kernel_rfl) (fun _ _ _ h => h) (Or.inl ⟨by rfl, ?_⟩) (by assumption) ?_
        rotate_left
        · intro w hSw; (try dsimp only at hSw); first | (go_simp; done) | (go_simp; with_reducible rfl)
        try simp only [Act.put]
        try simp only [List.setIfInBounds_toArray]
        try simp only [List.set_cons_succ]
        try simp only [List.set_cons_zero]
        refine wpAnyH_take (i := 7) (v := ?_) (at_list rfl) (by kernel_rfl) (by kernel_rfl) (by kernel_rfl) (fun _ _ _ h => h) (Or.inl ⟨by rfl, ?_⟩) (by assumption) ?_
        rotate_left
        · intro w hSw; (try dsimp only at hSw); first | (go_simp; done) | (go_simp; with_reducible rfl)
        try simp only [Act.put]
        try simp only [List.setIfInBounds_toArray]
        try simp only [List.set_cons_succ]
        try simp only [List.set_cons_zero]
        refine wpAnyH_take (i := 8) (v := ?_) (at_list rfl) (by kernel_rfl) (by kernel_rfl) (by kernel_rfl) (fun _ _ _ h => h) (Or.inl ⟨by rfl, ?_⟩) (by assumption) ?_
        rotate_left
        · intro w hSw; (try dsimp only at hSw); first | (go_simp; done) | (go_simp; with_reducible rfl)
        try simp only [Act.put]
        try simp only [List.setIfInBounds_toArray]
        try simp only [List.set_cons_succ]
        try simp only [List.set_cons_zero]
        refine wpAnyH_take (i := 9) (v := undef) (at_list rfl) (by kernel_rfl) (by kernel_rfl) (by kernel_rfl) (fun _ _ _ h => h) (Or.inr ⟨by rfl, rfl⟩) (by assumption) ?_
        try simp only [Act.put]
        try simp only [List.setIfInBounds_toArray]
        try simp only [List.set_cons_succ]
        try simp only [List.set_cons_zero]
        refine wpAnyH_take (i := 10) (v := undef) (at_list rfl) (by kernel_rfl) (by kernel_rfl) (by kernel_rfl) (fun _ _ _ h => h) (Or.inr ⟨by rfl, rfl⟩) (by assumption) ?_
        try simp only [Act.put]
        try simp only [List.setIfInBounds_toArray]
        try simp only [List.set_cons_succ]
        try simp only [List.set_cons_zero]
        refine wpAnyH_take (i := 11) (v := undef) (at_list rfl) (by kernel_rfl) (by kernel_rfl) (by kernel_rfl) (fun _ _ _ h => h) (Or.inr ⟨by rfl, rfl⟩) (by assumption) ?_
        try simp only [Act.put]
        try simp only [List.setIfInBounds_toArray]
        try simp only [List.set_cons_succ]
        try simp only [List.set_cons_zero]
        refine wpAnyH_take (i := 12) (v := undef) (at_list rfl) (by kernel_rfl) (by kernel_rfl) (by kernel_rfl) (fun _ _ _ h => h) (Or.inr ⟨by rfl, rfl⟩) (by assumption) ?_
        try simp only [Act.put]
        try simp only [List.setIfInBounds_toArray]
        try simp only [List.set_cons_succ]
        try simp only [List.set_cons_zero]
        refine wpAnyH_take (i := 13) (v := undef) (at_list rfl) (by kernel_rfl) (by kernel_rfl) (by kernel_rfl) (fun _ _ _ h => h) (Or.inr ⟨by rfl, rfl⟩) (by assumption) ?_
        try simp only [Act.put]
        try simp only [List.setIfInBounds_toArray]
        try simp only [List.set_cons_succ]
        try simp only [List.set_cons_zero]
        refine wpAnyH_take (i := 14) (v := undef) (at_list rfl) (by kernel_rfl) (by kernel_rfl) (by kernel_rfl) (fun _ _ _ h => h) (Or.inr ⟨by rfl, rfl⟩) (by assumption) ?_
        try simp only [Act.put]
        try simp only [List.setIfInBounds_toArray]
        try simp only [List.set_cons_succ]
        try simp only [List.set_cons_zero]
        refine wpAnyH_take (i := 15) (v := undef) (at_list rfl) (by kernel_rfl) (by kernel_rfl) (by kernel_rfl) (fun _ _ _ h => h) (Or.inr ⟨by rfl, rfl⟩) (by assumption) ?_
        try simp only [Act.put]
        try simp only [List.setIfInBounds_toArray]
        try simp only [List.set_cons_succ]
        try simp only [List.set_cons_zero]
        refine wpAnyH_take (i := 16) (v := undef) (at_list rfl) (by kernel_rfl) (by kernel_rfl) (by kernel_rfl) (fun _ _ _ h => h) (Or.inr ⟨by rfl, rfl⟩) (by assumption) ?_
        try simp only [Act.put]
        try simp only [List.setIfInBounds_toArray]
        try simp only [List.set_cons_succ]
        try simp only [List.set_cons_zero]
        refine wpAnyH_take (i := 17) (v := undef) (at_list rfl) (by kernel_rfl) (by kernel_rfl) (by kernel_rfl) (fun _ _ _ h => h) (Or.inr ⟨by rfl, rfl⟩) (by assumption) ?_
        try simp only [Act.put]
        try simp only [List.setIfInBounds_toArray]
        try simp only [List.set_cons_succ]
        try simp only [List.set_cons_zero]
        refine wpAnyH_take (i := 18) (v := ?_) (at_list rfl) (by kernel_rfl) (by kernel_rfl) (by kernel_rfl) (fun _ _ _ h => h) (Or.inl ⟨by rfl, ?_⟩) (by assumption) ?_
        rotate_left
        · intro w hSw; (try dsimp only at hSw); first | (go_simp; done) | (go_simp; with_reducible rfl)
        try simp only [Act.put]
        try simp only [List.setIfInBounds_toArray]
        try simp only [List.set_cons_succ]
        try simp only [List.set_cons_zero]
        refine wpAnyH_take (i := 19) (v := ?_) (at_list rfl) (by kernel_rfl) (by kernel_rfl) (by kernel_rfl) (fun _ _ _ h => h) (Or.inl ⟨by rfl, ?_⟩) (by assumption) ?_
        rotate_left
        · intro w hSw; (try dsimp only at hSw); first | (go_simp; done) | (go_simp; with_reducible rfl)
        try simp only [Act.put]
        try simp only [List.setIfInBounds_toArray]
        try simp only [List.set_cons_succ]
        try simp only [List.set_cons_zero]
        refine wpAnyH_take (i := 20) (v := ?_) (at_list rfl) (by kernel_rfl) (by kernel_rfl) (by kernel_rfl) (fun _ _ _ h => h) (Or.inl ⟨by rfl, ?_⟩) (by assumption) ?_
        rotate_left
        · intro w hSw; (try dsimp only at hSw); first | (go_simp; done) | (go_simp; with_reducible rfl)
        try simp only [Act.put]
        try simp only [List.setIfInBounds_toArray]
        try simp only [List.set_cons_succ]
        try simp only [List.set_cons_zero]
        refine wpAnyH_take (i := 21) (v := ?_) (at_list rfl) (by kernel_rfl) (by kernel_rfl) (by kernel_rfl) (fun _ _ _ h => h) (Or.inl ⟨by rfl, ?_⟩) (by assumption) ?_
        rotate_left
        · intro w hSw; (try dsimp only at hSw); first | (go_simp; done) | (go_simp; with_reducible rfl)
        try simp only [Act.put]
        try simp only [List.setIfInBounds_toArray]
        try simp only [List.set_cons_succ]
        try simp only [List.set_cons_zero]
        refine wpAnyH_take (i := 22) (v := ?_) (at_list rfl) (by kernel_rfl) (by kernel_rfl) (by kernel_rfl) (fun _ _ _ h => h) (Or.inl ⟨by rfl, ?_⟩) (by assumption) ?_
        rotate_left
        · intro w hSw; (try dsimp only at hSw); first | (go_simp; done) | (go_simp; with_reducible rfl)
        try simp only [Act.put]
        try simp only [List.setIfInBounds_toArray]
        try simp only [List.set_cons_succ]
        try simp only [List.set_cons_zero]
        refine wpAnyH_take (i := 23) (v := ?_) (at_list rfl) (by kernel_rfl) (by kernel_rfl) (by kernel_rfl) (fun _ _ _ h => h) (Or.inl ⟨by rfl, ?_⟩) (by assumption) ?_
        rotate_left
        · intro w hSw; (try dsimp only at hSw); first | (go_simp; done) | (go_simp; with_reducible rfl)
        try simp only [Act.put]
        try simp only [List.setIfInBounds_toArray]
        try simp only [List.set_cons_succ]
        try simp only [List.set_cons_zero]
        refine wpAnyH_take (i := 24) (v := ?_) (at_list rfl) (by kernel_rfl) (by kernel_rfl) (by kernel_rfl) (fun _ _ _ h => h) (Or.inl ⟨by rfl, ?_⟩) (by assumption) ?_
        rotate_left
        · intro w hSw; (try dsimp only at hSw); first | (go_simp; done) | (go_simp; with_reducible rfl)
        try simp only [Act.put]
        try simp only [List.setIfInBounds_toArray]
        try simp only [List.set_cons_succ]
        try simp only [List.set_cons_zero]
        refine wpAnyH_take (i := 25) (v := ?_) (at_list rfl) (by kernel_rfl) (by kernel_rfl) (by kernel_rfl) (fun _ _ _ h => h) (Or.inl ⟨by rfl, ?_⟩) (by assumption) ?_
        rotate_left
        · intro w hSw; (try dsimp only at hSw); first | (go_simp; done) | (go_simp; with_reducible rfl)
        try simp only [Act.put]
        try simp only [List.setIfInBounds_toArray]
        try simp only [List.set_cons_succ]
        try simp only [List.set_cons_zero]
        refine wpAnyH_take (i := 26) (v := ?_) (at_list rfl) (by kernel_rfl) (by kernel_rfl) (by kernel_rfl) (fun _ _ _ h => h) (Or.inl ⟨by rfl, ?_⟩) (by assumption) ?_
        rotate_left
        · intro w hSw; (try dsimp only at hSw); first | (go_simp; done) | (go_simp; with_reducible rfl)
        try simp only [Act.put]
        try simp only [List.setIfInBounds_toArray]
        try simp only [List.set_cons_succ]
        try simp only [List.set_cons_zero]
        refine wpAnyH_take (i := 27) (v := ?_) (at_list rfl) (by kernel_rfl) (by kernel_rfl) (by kernel_rfl) (fun _ _ _ h => h) (Or.inl ⟨by rfl, ?_⟩) (by assumption) ?_
        rotate_left
        · intro w hSw; (try dsimp only at hSw); first | (go_simp; done) | (go_simp; with_reducible rfl)
        try simp only [Act.put]
        try simp only [List.setIfInBounds_toArray]
        try simp only [List.set_cons_succ]
        try simp only [List.set_cons_zero]
        refine wpAnyH_take (i := 28) (v := ?_) (at_list rfl) (by kernel_rfl) (by kernel_rfl) (by kernel_rfl) (fun _ _ _ h => h) (Or.inl ⟨by rfl, ?_⟩) (by assumption) ?_
        rotate_left
        · intro w hSw; (try dsimp only at hSw); first | (go_simp; done) | (go_simp; with_reducible rfl)
        try simp only [Act.put]
        try simp only [List.setIfInBounds_toArray]
        try simp only [List.set_cons_succ]
        try simp only [List.set_cons_zero]
        refine wpAnyH_take (i := 29) (v := ?_) (at_list rfl) (by kernel_rfl) (by kernel_rfl) (by kernel_rfl) (fun _ _ _ h => h) (Or.inl ⟨by rfl, ?_⟩) (by assumption) ?_
        rotate_left
        · intro w hSw; (try dsimp only at hSw); first | (go_simp; done) | (go_simp; with_reducible rfl)
        try simp only [Act.put]
        try simp only [List.setIfInBounds_toArray]
        try simp only [List.set_cons_succ]
        try simp only [List.set_cons_zero]
        refine wpAnyH_take (i := 30) (v := ?_) (at_list rfl) (by kernel_rfl) (by kernel_rfl) (by kernel_rfl) (fun _ _ _ h => h) (Or.inl ⟨by rfl, ?_⟩) (by assumption) ?_
        rotate_left
        · intro w hSw; (try dsimp only at hSw); first | (go_simp; done) | (go_simp; with_reducible rfl)
        try simp only [Act.put]
        try simp only [List.setIfInBounds_toArray]
        try simp only [List.set_cons_succ]
        try simp only [List.set_cons_zero]
        refine wpAnyH_done (by kernel_rfl) ?_ _
        refine NoPanic.normal ?_
        clear hcv
        go_wp2
        go_roundw
        case rel => exact ⟨n + 1, by omega, by go_num, by assumption⟩
        case measure => simp [intOf]; omega
      | true =>
        have hvz : zAt V n = zAt Z n := by rw [unhide HV1, backAt, ← unhide HCC, hac]; rfl
        have htt : (T[n].toNat : Int) = 43 := by rw [unhide HT1, signN, ← unhide HCC, hac]; rfl
        rw [hvz] at hcv
        have hte : ((T[n].toNat : Int) == 43) = true := by rw [htt]; rfl
        have hzz : (zAt Z n != zAt Z n) = false := by simp
        clear htt hvz
        go_wp2
        refine wp_region_noPanic ?_
        refine wp_region_held_drew (S := fun w' => Below w6.heap.size w6 w') (by kernel_rfl) hb8'.drew (fun hHeld => ?_)
        refine wpAnyH_take (i := 0) (v := ?_) (at_list rfl) (by kernel_rfl) (by kernel_rfl) (by kernel_rfl) (fun _ _ _ h => h) (Or.inl ⟨by rfl, ?_⟩) (by assumption) ?_
        rotate_left
        · intro w hSw; (try dsimp only at hSw); first | (go_simp; done) | (go_simp; with_reducible rfl)
        try simp only [Act.put]
        try simp only [List.setIfInBounds_toArray]
        try simp only [List.set_cons_succ]
        try simp only [List.set_cons_zero]
        refine wpAnyH_take (i := 1) (v := ?_) (at_list rfl) (by kernel_rfl) (by kernel_rfl) (by kernel_rfl) (fun _ _ _ h => h) (Or.inl ⟨by rfl, ?_⟩) (by assumption) ?_
        rotate_left
        · intro w hSw; (try dsimp only at hSw); first | (go_simp; done) | (go_simp; with_reducible rfl)
        try simp only [Act.put]
        try simp only [List.setIfInBounds_toArray]
        try simp only [List.set_cons_succ]
        try simp only [List.set_cons_zero]
        refine wpAnyH_take (i := 2) (v := ?_) (at_list rfl) (by kernel_rfl) (by kernel_rfl) (by kernel_rfl) (fun _ _ _ h => h) (Or.inl ⟨by rfl, ?_⟩) (by assumption) ?_
        rotate_left
        · intro w hSw; (try dsimp only at hSw); first | (go_simp; done) | (go_simp; with_reducible rfl)
        try simp only [Act.put]
        try simp only [List.setIfInBounds_toArray]
        try simp only [List.set_cons_succ]
        try simp only [List.set_cons_zero]
        refine wpAnyH_take (i := 3) (v := ?_) (at_list rfl) (by kernel_rfl) (by kernel_rfl) (by kernel_rfl) (fun _ _ _ h => h) (Or.inl ⟨by rfl, ?_⟩) (by assumption) ?_
        rotate_left
        · intro w hSw; (try dsimp only at hSw); first | (go_simp; done) | (go_simp; with_reducible rfl)
        try simp only [Act.put]
        try simp only [List.setIfInBounds_toArray]
        try simp only [List.set_cons_succ]
        try simp only [List.set_cons_zero]
        refine wpAnyH_take (i := 4) (v := ?_) (at_list rfl) (by kernel_rfl) (by kernel_rfl) (by kernel_rfl) (fun _ _ _ h => h) (Or.inl ⟨by rfl, ?_⟩) (by assumption) ?_
        rotate_left
        · intro w hSw; (try dsimp only at hSw); first | (go_simp; done) | (go_simp; with_reducible rfl)
        try simp only [Act.put]
        try simp only [List.setIfInBounds_toArray]
        try simp only [List.set_cons_succ]
        try simp only [List.set_cons_zero]
        refine wpAnyH_take (i := 5) (v := ?_) (at_list rfl) (by kernel_rfl) (by kernel_rfl) (by kernel_rfl) (fun _ _ _ h => h) (Or.inl ⟨by rfl, ?_⟩) (by assumption) ?_
        rotate_left
        · intro w hSw; (try dsimp only at hSw); first | (go_simp; done) | (go_simp; with_reducible rfl)
        try simp only [Act.put]
        try simp only [List.setIfInBounds_toArray]
        try simp only [List.set_cons_succ]
        try simp only [List.set_cons_zero]
        refine wpAnyH_take (i := 6) (v := ?_) (at_list rfl) (by kernel_rfl) (by kernel_rfl) (by kernel_rfl) (fun _ _ _ h => h) (Or.inl ⟨by rfl, ?_⟩) (by assumption) ?_
        rotate_left
        · intro w hSw; (try dsimp only at hSw); first | (go_simp; done) | (go_simp; with_reducible rfl)
        try simp only [Act.put]
        try simp only [List.setIfInBounds_toArray]
        try simp only [List.set_cons_succ]
        try simp only [List.set_cons_zero]
        refine wpAnyH_take (i := 7) (v := ?_) (at_list rfl) (by kernel_rfl) (by kernel_rfl) (by kernel_rfl) (fun _ _ _ h => h) (Or.inl ⟨by rfl, ?_⟩) (by assumption) ?_
        rotate_left
        · intro w hSw; (try dsimp only at hSw); first | (go_simp; done) | (go_simp; with_reducible rfl)
        try simp only [Act.put]
        try simp only [List.setIfInBounds_toArray]
        try simp only [List.set_cons_succ]
        try simp only [List.set_cons_zero]
        refine wpAnyH_take (i := 8) (v := ?_) (at_list rfl) (by kernel_rfl) (by kernel_rfl) (by kernel_rfl) (fun _ _ _ h => h) (Or.inl ⟨by rfl, ?_⟩) (by assumption) ?_
        rotate_left
        · intro w hSw; (try dsimp only at hSw); first | (go_simp; done) | (go_simp; with_reducible rfl)
        try simp only [Act.put]
        try simp only [List.setIfInBounds_toArray]
        try simp only [List.set_cons_succ]
        try simp only [List.set_cons_zero]
        refine wpAnyH_take (i := 9) (v := ?_) (at_list rfl) (by kernel_rfl) (by kernel_rfl) (by kernel_rfl) (fun _ _ _ h => h) (Or.inl ⟨by rfl, ?_⟩) (by assumption) ?_
        rotate_left
        · intro w hSw; (try dsimp only at hSw); first | (go_simp; done) | (go_simp; with_reducible rfl)
        try simp only [Act.put]
        try simp only [List.setIfInBounds_toArray]
        try simp only [List.set_cons_succ]
        try simp only [List.set_cons_zero]
        refine wpAnyH_take (i := 10) (v := ?_) (at_list rfl) (by kernel_rfl) (by kernel_rfl) (by kernel_rfl) (fun _ _ _ h => h) (Or.inl ⟨by rfl, ?_⟩) (by assumption) ?_
        rotate_left
        · intro w hSw; (try dsimp only at hSw); first | (go_simp; done) | (go_simp; with_reducible rfl)
        try simp only [Act.put]
        try simp only [List.setIfInBounds_toArray]
        try simp only [List.set_cons_succ]
        try simp only [List.set_cons_zero]
        refine wpAnyH_take (i := 11) (v := ?_) (at_list rfl) (by kernel_rfl) (by kernel_rfl) (by kernel_rfl) (fun _ _ _ h => h) (Or.inl ⟨by rfl, ?_⟩) (by assumption) ?_
        rotate_left
        · intro w hSw; (try dsimp only at hSw); first | (go_simp; done) | (go_simp; with_reducible rfl)
        try simp only [Act.put]
        try simp only [List.setIfInBounds_toArray]
        try simp only [List.set_cons_succ]
        try simp only [List.set_cons_zero]
        refine wpAnyH_take (i := 12) (v := ?_) (at_list rfl) (by kernel_rfl) (by kernel_rfl) (by kernel_rfl) (fun _ _ _ h => h) (Or.inl ⟨by rfl, ?_⟩) (by assumption) ?_
        rotate_left
        · intro w hSw; (try dsimp only at hSw); first | (go_simp; done) | (go_simp; with_reducible rfl)
        try simp only [Act.put]
        try simp only [List.setIfInBounds_toArray]
        try simp only [List.set_cons_succ]
        try simp only [List.set_cons_zero]
        refine wpAnyH_take (i := 13) (v := ?_) (at_list rfl) (by kernel_rfl) (by kernel_rfl) (by kernel_rfl) (fun _ _ _ h => h) (Or.inl ⟨by rfl, ?_⟩) (by assumption) ?_
        rotate_left
        · intro w hSw; (try dsimp only at hSw); first | (go_simp; done) | (go_simp; with_reducible rfl)
        try simp only [Act.put]
        try simp only [List.setIfInBounds_toArray]
        try simp only [List.set_cons_succ]
        try simp only [List.set_cons_zero]
        refine wpAnyH_take (i := 14) (v := ?_) (at_list rfl) (by kernel_rfl) (by kernel_rfl) (by kernel_rfl) (fun _ _ _ h => h) (Or.inl ⟨by rfl, ?_⟩) (by assumption) ?_
        rotate_left
        · intro w hSw; (try dsimp only at hSw); first | (go_simp; done) | (go_simp; with_reducible rfl)
        try simp only [Act.put]
        try simp only [List.setIfInBounds_toArray]
        try simp only [List.set_cons_succ]
        try simp only [List.set_cons_zero]
        refine wpAnyH_take (i := 15) (v := ?_) (at_list rfl) (by kernel_rfl) (by kernel_rfl) (by kernel_rfl) (fun _ _ _ h => h) (Or.inl ⟨by rfl, ?_⟩) (by assumption) ?_
        rotate_left
        · intro w hSw; (try dsimp only at hSw); first | (go_simp; done) | (go_simp; with_reducible rfl)
        try simp only [Act.put]
        try simp only [List.setIfInBounds_toArray]
        try simp only [List.set_cons_succ]
        try simp only [List.set_cons_zero]
        refine wpAnyH_take (i := 16) (v := ?_) (at_list rfl) (by kernel_rfl) (by kernel_rfl) (by kernel_rfl) (fun _ _ _ h => h) (Or.inl ⟨by rfl, ?_⟩) (by assumption) ?_
        rotate_left
        · intro w hSw; (try dsimp only at hSw); first | (go_simp; done) | (go_simp; with_reducible rfl)
        try simp only [Act.put]
        try simp only [List.setIfInBounds_toArray]
        try simp only [List.set_cons_succ]
        try simp only [List.set_cons_zero]
        refine wpAnyH_take (i := 17) (v := ?_) (at_list rfl) (by kernel_rfl) (by kernel_rfl) (by kernel_rfl) (fun _ _ _ h => h) (Or.inl ⟨by rfl, ?_⟩) (by assumption) ?_
        rotate_left
        · intro w hSw; (try dsimp only at hSw); first | (go_simp; done) | (go_simp; with_reducible rfl)
        try simp only [Act.put]
        try simp only [List.setIfInBounds_toArray]
        try simp only [List.set_cons_succ]
        try simp only [List.set_cons_zero]
        refine wpAnyH_take (i := 18) (v := ?_) (at_list rfl) (by kernel_rfl) (by kernel_rfl) (by kernel_rfl) (fun _ _ _ h => h) (Or.inl ⟨by rfl, ?_⟩) (by assumption) ?_
        rotate_left
        · intro w hSw; (try dsimp only at hSw); first | (go_simp; done) | (go_simp; with_reducible rfl)
        try simp only [Act.put]
        try simp only [List.setIfInBounds_toArray]
        try simp only [List.set_cons_succ]
        try simp only [List.set_cons_zero]
        refine wpAnyH_take (i := 19) (v := ?_) (at_list rfl) (by kernel_rfl) (by kernel_rfl) (by kernel_rfl) (fun _ _ _ h => h) (Or.inl ⟨by rfl, ?_⟩) (by assumption) ?_
        rotate_left
        · intro w hSw; (try dsimp only at hSw); first | (go_simp; done) | (go_simp; with_reducible rfl)
        try simp only [Act.put]
        try simp only [List.setIfInBounds_toArray]
        try simp only [List.set_cons_succ]
        try simp only [List.set_cons_zero]
        refine wpAnyH_take (i := 20) (v := ?_) (at_list rfl) (by kernel_rfl) (by kernel_rfl) (by kernel_rfl) (fun _ _ _ h => h) (Or.inl ⟨by rfl, ?_⟩) (by assumption) ?_
        rotate_left
        · intro w hSw; (try dsimp only at hSw); first | (go_simp; done) | (go_simp; with_reducible rfl)
        try simp only [Act.put]
        try simp only [List.setIfInBounds_toArray]
        try simp only [List.set_cons_succ]
        try simp only [List.set_cons_zero]
        refine wpAnyH_take (i := 21) (v := ?_) (at_list rfl) (by kernel_rfl) (by kernel_rfl) (by kernel_rfl) (fun _ _ _ h => h) (Or.inl ⟨by rfl, ?_⟩) (by assumption) ?_
        rotate_left
        · intro w hSw; (try dsimp only at hSw); first | (go_simp; done) | (go_simp; with_reducible rfl)
        try simp only [Act.put]
        try simp only [List.setIfInBounds_toArray]
        try simp only [List.set_cons_succ]
        try simp only [List.set_cons_zero]
        refine wpAnyH_take (i := 22) (v := ?_) (at_list rfl) (by kernel_rfl) (by kernel_rfl) (by kernel_rfl) (fun _ _ _ h => h) (Or.inl ⟨by rfl, ?_⟩) (by assumption) ?_
        rotate_left
        · intro w hSw; (try dsimp only at hSw); first | (go_simp; done) | (go_simp; with_reducible rfl)
        try simp only [Act.put]
        try simp only [List.setIfInBounds_toArray]
        try simp only [List.set_cons_succ]
        try simp only [List.set_cons_zero]
        refine wpAnyH_take (i := 23) (v := ?_) (at_list rfl) (by kernel_rfl) (by kernel_rfl) (by kernel_rfl) (fun _ _ _ h => h) (Or.inl ⟨by rfl, ?_⟩) (by assumption) ?_
        rotate_left
        · intro w hSw; (try dsimp only at hSw); first | (go_simp; done) | (go_simp; with_reducible rfl)
        try simp only [Act.put]
        try simp only [List.setIfInBounds_toArray]
        try simp only [List.set_cons_succ]
        try simp only [List.set_cons_zero]
        refine wpAnyH_take (i := 24) (v := undef) (at_list rfl) (by kernel_rfl) (by kernel_rfl) (by kernel_rfl) (fun _ _ _ h => h) (Or.inr ⟨by rfl, rfl⟩) (by assumption) ?_
        try simp only [Act.put]
        try simp only [List.setIfInBounds_toArray]
        try simp only [List.set_cons_succ]
        try simp only [List.set_cons_zero]
        refine wpAnyH_take (i := 25) (v := undef) (at_list rfl) (by kernel_rfl) (by kernel_rfl) (by kernel_rfl) (fun _ _ _ h => h) (Or.inr ⟨by rfl, rfl⟩) (by assumption) ?_
        try simp only [Act.put]
        try simp only [List.setIfInBounds_toArray]
        try simp only [List.set_cons_succ]
        try simp only [List.set_cons_zero]
        refine wpAnyH_take (i := 26) (v := undef) (at_list rfl) (by kernel_rfl) (by kernel_rfl) (by kernel_rfl) (fun _ _ _ h => h) (Or.inr ⟨by rfl, rfl⟩) (by assumption) ?_
        try simp only [Act.put]
        try simp only [List.setIfInBounds_toArray]
        try simp only [List.set_cons_succ]
        try simp only [List.set_cons_zero]
        refine wpAnyH_take (i := 27) (v := undef) (at_list rfl) (by kernel_rfl) (by kernel_rfl) (by kernel_rfl) (fun _ _ _ h => h) (Or.inr ⟨by rfl, rfl⟩) (by assumption) ?_
        try simp only [Act.put]
        try simp only [List.setIfInBounds_toArray]
        try simp only [List.set_cons_succ]
        try simp only [List.set_cons_zero]
        refine wpAnyH_take (i := 28) (v := undef) (at_list rfl) (by kernel_rfl) (by kernel_rfl) (by kernel_rfl) (fun _ _ _ h => h) (Or.inr ⟨by rfl, rfl⟩) (by assumption) ?_
        try simp only [Act.put]
        try simp only [List.setIfInBounds_toArray]
        try simp only [List.set_cons_succ]
        try simp only [List.set_cons_zero]
        refine wpAnyH_take (i := 29) (v := ?_) (at_list rfl) (by kernel_rfl) (by kernel_rfl) (by kernel_rfl) (fun _ _ _ h => h) (Or.inl ⟨by rfl, ?_⟩) (by assumption) ?_
        rotate_left
        · intro w hSw; (try dsimp only at hSw); first | (go_simp; done) | (go_simp; with_reducible rfl)
        try simp only [Act.put]
        try simp only [List.setIfInBounds_toArray]
        try simp only [List.set_cons_succ]
        try simp only [List.set_cons_zero]
        refine wpAnyH_take (i := 30) (v := ?_) (at_list rfl) (by kernel_rfl) (by kernel_rfl) (by kernel_rfl) (fun _ _ _ h => h) (Or.inl ⟨by rfl, ?_⟩) (by assumption) ?_
        rotate_left
        · intro w hSw; (try dsimp only at hSw); first | (go_simp; done) | (go_simp; with_reducible rfl)
        try simp only [Act.put]
        try simp only [List.setIfInBounds_toArray]
        try simp only [List.set_cons_succ]
        try simp only [List.set_cons_zero]
        refine wpAnyH_done (by kernel_rfl) ?_ _
        refine NoPanic.normal ?_
        clear hcx hcv
        go_wp2
        go_roundw
        case rel => exact ⟨n + 1, by omega, by go_num, by assumption⟩
        case measure => simp [intOf]; omega
    · go_wp2
      go_ret
      exact ⟨rfl, (unhide HB4).trans ((box_below (box_next (unhide HB6) (unhide HB))).mono (unhide HB4).size)⟩

end Go.Proofs.Ytoihlnjcgopdlab

namespace Go.Proofs.Ytoihlnjcgopdlab
open Go.RowKit

/-- An instruction. -/
structure Ins where
  op : Int
  r : Int
  b : Int
  k : Int
  n : Int

def insAt (s : ByteArray) (i : Nat) : Ins := ⟨bt s (5 * i), bt s (5 * i + 1), bt s (5 * i + 2), bt s (5 * i + 3), bt s (5 * i + 4)⟩

/-- Its numbers are bytes. -/
structure Ins.Byt (x : Ins) : Prop where
  op0 : 0 ≤ x.op
  op1 : x.op ≤ 255
  r0 : 0 ≤ x.r
  r1 : x.r ≤ 255
  b0 : 0 ≤ x.b
  b1 : x.b ≤ 255
  k0 : 0 ≤ x.k
  k1 : x.k ≤ 255
  n0 : 0 ≤ x.n
  n1 : x.n ≤ 255
theorem insAt_byt (s : ByteArray) (i : Nat) : (insAt s i).Byt := ⟨bt_lo _ _, bt_hi _ _, bt_lo _ _, bt_hi _ _, bt_lo _ _, bt_hi _ _, bt_lo _ _, bt_hi _ _, bt_lo _ _, bt_hi _ _⟩

/-- P7: does it hold, with so many others behind it? -/
def knownB (x : Ins) (left : Int) : Bool :=
  if 8 ≤ x.r then false else if x.op ≠ 65 ∧ x.n < 1 then false else
  if x.op = 71 ∨ x.op = 80 then decide (x.b ≤ 63 ∧ x.b % 8 + x.n ≤ 8 ∧ x.k + x.n ≤ 32)
  else if x.op = 88 then decide (x.n ≤ 32)
  else if x.op = 82 then decide (x.n ≤ 32 ∧ x.k ≤ 1)
  else if x.op = 74 then decide (x.n ≤ left)
  else decide (x.op = 65)

theorem known_mono {x : Ins} {l m : Int} (h : knownB x l = true) (hlm : l ≤ m) : knownB x m = true := by
  unfold knownB at h ⊢
  split at h
  · cases h
  · rename_i h1
    rw [if_neg h1]
    split at h
    · cases h
    · rename_i h2
      rw [if_neg h2]
      split at h
      · rename_i h3; rw [if_pos h3]; exact h
      · rename_i h3
        rw [if_neg h3]
        split at h
        · rename_i h4; rw [if_pos h4]; exact h
        · rename_i h4
          rw [if_neg h4]
          split at h
          · rename_i h5; rw [if_pos h5]; exact h
          · rename_i h5
            rw [if_neg h5]
            split at h
            · rename_i h6; rw [if_pos h6]; simp at h ⊢; omega
            · rename_i h6; rw [if_neg h6]; exact h

theorem known_all {x : Ins} {l : Int} (h : knownB x l = true) : x.r ≤ 7 ∧ (x.op = 65 ∨ 1 ≤ x.n) ∧ ((x.op = 71 ∨ x.op = 80) ∧ x.b ≤ 63 ∧ x.b % 8 + x.n ≤ 8 ∧ x.k + x.n ≤ 32 ∨ x.op = 88 ∧ x.n ≤ 32 ∨ x.op = 82 ∧ x.n ≤ 32 ∧ x.k ≤ 1 ∨ x.op = 74 ∧ x.n ≤ l ∨ x.op = 65) := by
  unfold knownB at h
  split at h
  · cases h
  · split at h
    · cases h
    · split at h
      · simp only [decide_eq_true_eq] at h; exact ⟨by omega, by omega, by omega⟩
      · split at h
        · simp only [decide_eq_true_eq] at h; exact ⟨by omega, by omega, by omega⟩
        · split at h
          · simp only [decide_eq_true_eq] at h; exact ⟨by omega, by omega, by omega⟩
          · split at h
            · simp only [decide_eq_true_eq] at h; exact ⟨by omega, by omega, by omega⟩
            · simp only [decide_eq_true_eq] at h; exact ⟨by omega, by omega, by omega⟩
theorem known_of {x : Ins} {l : Int} (h : x.r ≤ 7 ∧ (x.op = 65 ∨ 1 ≤ x.n) ∧ ((x.op = 71 ∨ x.op = 80) ∧ x.b ≤ 63 ∧ x.b % 8 + x.n ≤ 8 ∧ x.k + x.n ≤ 32 ∨ x.op = 88 ∧ x.n ≤ 32 ∨ x.op = 82 ∧ x.n ≤ 32 ∧ x.k ≤ 1 ∨ x.op = 74 ∧ x.n ≤ l ∨ x.op = 65)) : knownB x l = true := by
  obtain ⟨h1, h2, h3⟩ := h
  unfold knownB
  rw [if_neg (by omega), if_neg (by omega)]
  rcases h3 with ⟨h, h3⟩ | ⟨h, h3⟩ | ⟨h, h3⟩ | ⟨h, h3⟩ | h
  · rw [if_pos h]; simpa using h3
  · rw [if_neg (by omega), if_pos h]; simpa using h3
  · rw [if_neg (by omega), if_neg (by omega), if_pos h]; simpa using h3
  · rw [if_neg (by omega), if_neg (by omega), if_neg (by omega), if_pos h]; simpa using h3
  · rw [if_neg (by omega), if_neg (by omega), if_neg (by omega), if_neg (by omega)]; simpa using h
theorem known_r {x : Ins} {l : Int} (h : knownB x l = true) : x.r ≤ 7 := (known_all h).1
theorem known_move {x : Ins} {l : Int} (h : knownB x l = true) (ho : x.op = 71 ∨ x.op = 80) : 1 ≤ x.n ∧ x.b ≤ 63 ∧ x.b % 8 + x.n ≤ 8 ∧ x.k + x.n ≤ 32 := by
  have := known_all h; omega
theorem known_x {x : Ins} {l : Int} (h : knownB x l = true) (ho : x.op = 88) : 1 ≤ x.n ∧ x.n ≤ 32 := by
  have := known_all h; omega
theorem known_range {x : Ins} {l : Int} (h : knownB x l = true) (ho : x.op = 82) : 1 ≤ x.n ∧ x.n ≤ 32 ∧ x.k ≤ 1 := by
  have := known_all h; omega
theorem known_jump {x : Ins} {l : Int} (h : knownB x l = true) (ho : x.op = 74) : 1 ≤ x.n ∧ x.n ≤ l := by
  have := known_all h; omega
theorem known_op {x : Ins} {l : Int} (h : knownB x l = true) : x.op = 71 ∨ x.op = 80 ∨ x.op = 88 ∨ x.op = 82 ∨ x.op = 74 ∨ x.op = 65 := by
  have := known_all h; omega

/-- Bit q becomes c. -/
def setb (N q : Nat) (c : Bool) : Nat := if N.testBit q = c then N else N ^^^ 2 ^ q
theorem setb_test (N q : Nat) (c : Bool) (i : Nat) : (setb N q c).testBit i = if i = q then c else N.testBit i := by
  unfold setb
  split
  · rename_i h; split
    · rename_i e; subst e; exact h
    · rfl
  · rename_i h
    rw [Nat.testBit_xor, Nat.testBit_two_pow]
    split
    · rename_i e; subst e
      cases c <;> cases hb : N.testBit i <;> simp_all
    · rename_i e
      have : ¬ q = i := fun h => e h.symm
      simp [this]
theorem setb_lt {N q n : Nat} (c : Bool) (h : N < 2 ^ n) (hq : q < n) : setb N q c < 2 ^ n := by
  unfold setb
  split
  · exact h
  · exact Nat.xor_lt_two_pow h (Nat.pow_lt_pow_right (by omega) hq)
theorem setb_add {x q : Nat} (h : x < 2 ^ q) (c : Bool) : setb x q c = x + c.toNat * 2 ^ q := by
  have hx : x.testBit q = false := Nat.testBit_lt_two_pow h
  cases c with
  | false => simp [setb, hx]
  | true =>
    rw [Bool.toNat_true, Nat.one_mul]
    have e : x + 2 ^ q = 2 ^ q ||| x := by
      have := Nat.two_pow_add_eq_or_of_lt h 1
      rw [Nat.mul_one] at this
      omega
    rw [e]
    apply Nat.eq_of_testBit_eq
    intro i
    rw [setb_test, Nat.testBit_or, Nat.testBit_two_pow]
    split
    · rename_i e; subst e; simp
    · rename_i e
      have : ¬ q = i := fun h => e h.symm
      simp [this]

/-- For j below n: bit k + j of x is laid into bit b + j of N. -/
def putTo (N x b k : Nat) : Nat → Nat
  | 0 => N
  | j + 1 => setb (putTo N x b k j) (b + j) (x.testBit (k + j))
theorem putTo_test (N x b k n q : Nat) : (putTo N x b k n).testBit q = if b ≤ q ∧ q < b + n then x.testBit (k + (q - b)) else N.testBit q := by
  induction n with
  | zero => rw [putTo, if_neg (by omega)]
  | succ n ih =>
    rw [putTo, setb_test, ih]
    by_cases e : q = b + n
    · rw [if_pos e, if_pos (by omega), e, Nat.add_sub_cancel_left]
    · rw [if_neg e]
      by_cases h : b ≤ q ∧ q < b + n
      · rw [if_pos h, if_pos (by omega)]
      · rw [if_neg h, if_neg (by omega)]
theorem putTo_lt {N m : Nat} (x b k n : Nat) (h : N < 2 ^ m) (hb : b + n ≤ m) : putTo N x b k n < 2 ^ m := by
  induction n with
  | zero => exact h
  | succ n ih => rw [putTo]; exact setb_lt _ (ih (by omega)) (by omega)

/-- What a register is modulo 2 to the 32. -/
def low (v : Int) : Nat := (v % 4294967296).toNat
theorem low_lt (v : Int) : low v < 4294967296 := by unfold low; omega

/-- What a run works on. -/
structure St where
  reg : Nat → Int
  mark : Nat → Bool
  N : Nat

def upd {α : Type} (f : Nat → α) (r : Nat) (v : α) : Nat → α := fun j => if j = r then v else f j

/-- What an instruction does, and how many behind it are left out; none: the run ends. -/
def act (x : Ins) (s : St) : Option (St × Nat) :=
  if x.op = 71 then some ({ s with reg := upd s.reg x.r.toNat (putTo (low (s.reg x.r.toNat)) s.N x.k.toNat x.b.toNat x.n.toNat : Nat) }, 0)
  else if x.op = 80 then some ({ s with N := putTo s.N (low (s.reg x.r.toNat)) x.b.toNat x.k.toNat x.n.toNat }, 0)
  else if x.op = 88 then some ({ s with reg := upd s.reg x.r.toNat (extV (s.reg x.r.toNat) x.n) }, 0)
  else if x.op = 82 then (if fitsB (if x.k = 1 then 115 else 117) x.n (s.reg x.r.toNat) then some (s, 0) else none)
  else if x.op = 74 then some (s, if s.reg x.r.toNat = x.b then 0 else x.n.toNat)
  else some ({ s with mark := upd s.mark x.r.toNat true }, 0)

theorem act_put {r b k n : Int} (S : St) : act ⟨80, r, b, k, n⟩ S = some ({ S with N := putTo S.N (low (S.reg r.toNat)) b.toNat k.toNat n.toNat }, 0) := by
  simp [act]
theorem act_get {r b k n : Int} (S : St) : act ⟨71, r, b, k, n⟩ S = some ({ S with reg := upd S.reg r.toNat (putTo (low (S.reg r.toNat)) S.N k.toNat b.toNat n.toNat : Nat) }, 0) := by
  simp [act]
theorem act_x {r b k n : Int} (S : St) : act ⟨88, r, b, k, n⟩ S = some ({ S with reg := upd S.reg r.toNat (extV (S.reg r.toNat) n) }, 0) := by
  simp [act]
theorem act_range {r b k n : Int} (S : St) : act ⟨82, r, b, k, n⟩ S = if fitsB (if k = 1 then 115 else 117) n (S.reg r.toNat) then some (S, 0) else none := by
  simp [act]
theorem act_jump {r b k n : Int} (S : St) : act ⟨74, r, b, k, n⟩ S = some (S, if S.reg r.toNat = b then 0 else n.toNat) := by
  simp [act]
theorem act_mark {r b k n : Int} (S : St) : act ⟨65, r, b, k, n⟩ S = some ({ S with mark := upd S.mark r.toNat true }, 0) := by
  simp [act]

/-- P8. -/
def mrun : Nat → List Ins → St → St × Int × Int
  | 0, _, s => (s, 0, 0)
  | _ + 1, [], s => (s, 0, 0)
  | f + 1, x :: l, s => match act x s with
    | none => (s, 9, x.r)
    | some (s', d) => mrun f (l.drop d) s'
theorem mrun_fuel : ∀ (f : Nat) (l : List Ins) (s : St), l.length ≤ f → mrun f l s = mrun l.length l s := by
  intro f
  induction f using Nat.strongRecOn with
  | ind f ih =>
    intro l s h
    cases l with
    | nil => cases f <;> simp [mrun]
    | cons x l =>
      obtain ⟨f, rfl⟩ : ∃ g, f = g + 1 := ⟨f - 1, by simp at h; omega⟩
      simp only [List.length_cons] at h
      rw [mrun, List.length_cons, mrun]
      cases act x s with
      | none => rfl
      | some y =>
        obtain ⟨s', d⟩ := y
        simp only
        have hd : (l.drop d).length ≤ l.length := by simp
        by_cases e : l.length = f
        · rw [e]
        · rw [ih f (by omega) _ _ (by omega), ← ih l.length (by omega) _ _ hd]
def runL (l : List Ins) (s : St) : St × Int × Int := mrun l.length l s
theorem runL_nil (s : St) : runL [] s = (s, 0, 0) := rfl
theorem runL_cons (x : Ins) (l : List Ins) (s : St) : runL (x :: l) s = match act x s with
    | none => (s, 9, x.r)
    | some (s', d) => runL (l.drop d) s' := by
  rw [runL, List.length_cons, mrun]
  cases act x s with
  | none => rfl
  | some y =>
    obtain ⟨s', d⟩ := y
    simp only
    exact mrun_fuel _ _ _ (by simp)

/-- Code that Verify admits. -/
def Fine (l : List Ins) : Prop := ∀ (i : Nat) (x : Ins), l[i]? = some x → x.Byt ∧ knownB x ((l.length : Int) - 1 - i) = true
/-- The code of a row of instructions. -/
def Ins.bytes (x : Ins) : List Int := [x.op, x.r, x.b, x.k, x.n]
def codeB (l : List Ins) : ByteArray := strOfNums (l.flatMap Ins.bytes)

end Go.Proofs.Ytoihlnjcgopdlab

namespace Go.Proofs.Ytoihlnjcgopdlab
open Go.RowKit

set_option maxHeartbeats 1000000 in
theorem readInstruction_any (t : ByteArray) (w : World) (h5 : t.size = 5) :
    Calls Try.prog 82 #[.string t] w fun e w' =>
      e = .returned (.agg #[.int .u8 (bt t 0), .int .i64 (bt t 1), .int .i64 (bt t 2), .int .i64 (bt t 3), .int .i64 (bt t 4)]) ∧ Below w.heap.size w w' := by
  have hn : ((t.size : Int) != 5) = false := by rw [h5]; rfl
  have i0 : (0 : Int) < (t.size : Int) := by omega
  have i1 : (1 : Int) < (t.size : Int) := by omega
  have i2 : (2 : Int) < (t.size : Int) := by omega
  have i3 : (3 : Int) < (t.size : Int) := by omega
  have i4 : (4 : Int) < (t.size : Int) := by omega
  have H5 := hide h5
  clear h5
  have q0 : 0 < t.size := by omega
  have q1 : 1 < t.size := by omega
  have q2 : 2 < t.size := by omega
  have q3 : 3 < t.size := by omega
  have q4 : 4 < t.size := by omega
  have w1 : IntKind.i64.wrap (t[1].toNat : Int) = (t[1].toNat : Int) := by have := (t[1]).toNat_lt; rw [IntKind.wrap_i64]; omega
  have w2 : IntKind.i64.wrap (t[2].toNat : Int) = (t[2].toNat : Int) := by have := (t[2]).toNat_lt; rw [IntKind.wrap_i64]; omega
  have w3 : IntKind.i64.wrap (t[3].toNat : Int) = (t[3].toNat : Int) := by have := (t[3]).toNat_lt; rw [IntKind.wrap_i64]; omega
  have w4 : IntKind.i64.wrap (t[4].toNat : Int) = (t[4].toNat : Int) := by have := (t[4]).toNat_lt; rw [IntKind.wrap_i64]; omega
  go_enter Try.func82, Try.ntmps82
  go_wp2
  refine wp_region_noPanic ?_
  refine wp_region_held_drew (S := fun _ => True) (by kernel_rfl) trivial (fun hHeld => ?_)
  refine wpAnyH_take (i := 0) (v := ?_) (at_list rfl) (by kernel_rfl) (by kernel_rfl) (by kernel_rfl) (fun _ _ _ h => h) (Or.inl ⟨by rfl, ?_⟩) (by assumption) ?_
  rotate_left
  · intro w hSw; (try dsimp only at hSw); first | (go_simp; done) | (go_simp; with_reducible rfl)
  try simp only [Act.put]
  try simp only [List.setIfInBounds_toArray]
  try simp only [List.set_cons_succ]
  try simp only [List.set_cons_zero]
  refine wpAnyH_take (i := 2) (v := ?_) (at_list rfl) (by kernel_rfl) (by kernel_rfl) (by kernel_rfl) (fun _ _ _ h => h) (Or.inl ⟨by rfl, ?_⟩) (by assumption) ?_
  rotate_left
  · intro w hSw; (try dsimp only at hSw); first | (go_simp; done) | (go_simp; with_reducible rfl)
  try simp only [Act.put]
  try simp only [List.setIfInBounds_toArray]
  try simp only [List.set_cons_succ]
  try simp only [List.set_cons_zero]
  refine wpAnyH_take (i := 5) (v := ?_) (at_list rfl) (by kernel_rfl) (by kernel_rfl) (by kernel_rfl) (fun _ _ _ h => h) (Or.inl ⟨by rfl, ?_⟩) (by assumption) ?_
  rotate_left
  · intro w hSw; (try dsimp only at hSw); first | (go_simp; done) | (go_simp; with_reducible rfl)
  try simp only [Act.put]
  try simp only [List.setIfInBounds_toArray]
  try simp only [List.set_cons_succ]
  try simp only [List.set_cons_zero]
  refine wpAnyH_take (i := 8) (v := ?_) (at_list rfl) (by kernel_rfl) (by kernel_rfl) (by kernel_rfl) (fun _ _ _ h => h) (Or.inl ⟨by rfl, ?_⟩) (by assumption) ?_
  rotate_left
  · intro w hSw; (try dsimp only at hSw); first | (go_simp; done) | (go_simp; with_reducible rfl)
  try simp only [Act.put]
  try simp only [List.setIfInBounds_toArray]
  try simp only [List.set_cons_succ]
  try simp only [List.set_cons_zero]
  refine wpAnyH_take (i := 11) (v := ?_) (at_list rfl) (by kernel_rfl) (by kernel_rfl) (by kernel_rfl) (fun _ _ _ h => h) (Or.inl ⟨by rfl, ?_⟩) (by assumption) ?_
  rotate_left
  · intro w hSw; (try dsimp only at hSw); first | (go_simp; done) | (go_simp; with_reducible rfl)
  try simp only [Act.put]
  try simp only [List.setIfInBounds_toArray]
  try simp only [List.set_cons_succ]
  try simp only [List.set_cons_zero]
  refine wpAnyH_take (i := 1) (v := ?_) (at_list rfl) (by kernel_rfl) (by kernel_rfl) (by kernel_rfl) (fun _ _ _ h => h) (Or.inl ⟨by rfl, ?_⟩) (by assumption) ?_
  rotate_left
  · intro w hSw; (try dsimp only at hSw); first | (go_simp; done) | (go_simp; with_reducible rfl)
  try simp only [Act.put]
  try simp only [List.setIfInBounds_toArray]
  try simp only [List.set_cons_succ]
  try simp only [List.set_cons_zero]
  refine wpAnyH_take (i := 3) (v := ?_) (at_list rfl) (by kernel_rfl) (by kernel_rfl) (by kernel_rfl) (fun _ _ _ h => h) (Or.inl ⟨by rfl, ?_⟩) (by assumption) ?_
  rotate_left
  · intro w hSw; (try dsimp only at hSw); first | (go_simp; done) | (go_simp; with_reducible rfl)
  try simp only [Act.put]
  try simp only [List.setIfInBounds_toArray]
  try simp only [List.set_cons_succ]
  try simp only [List.set_cons_zero]
  refine wpAnyH_take (i := 6) (v := ?_) (at_list rfl) (by kernel_rfl) (by kernel_rfl) (by kernel_rfl) (fun _ _ _ h => h) (Or.inl ⟨by rfl, ?_⟩) (by assumption) ?_
  rotate_left
  · intro w hSw; (try dsimp only at hSw); first | (go_simp; done) | (go_simp; with_reducible rfl)
  try simp only [Act.put]
  try simp only [List.setIfInBounds_toArray]
  try simp only [List.set_cons_succ]
  try simp only [List.set_cons_zero]
  refine wpAnyH_take (i := 9) (v := ?_) (at_list rfl) (by kernel_rfl) (by kernel_rfl) (by kernel_rfl) (fun _ _ _ h => h) (Or.inl ⟨by rfl, ?_⟩) (by assumption) ?_
  rotate_left
  · intro w hSw; (try dsimp only at hSw); first | (go_simp; done) | (go_simp; with_reducible rfl)
  try simp only [Act.put]
  try simp only [List.setIfInBounds_toArray]
  try simp only [List.set_cons_succ]
  try simp only [List.set_cons_zero]
  refine wpAnyH_take (i := 12) (v := ?_) (at_list rfl) (by kernel_rfl) (by kernel_rfl) (by kernel_rfl) (fun _ _ _ h => h) (Or.inl ⟨by rfl, ?_⟩) (by assumption) ?_
  rotate_left
  · intro w hSw; (try dsimp only at hSw); first | (go_simp; done) | (go_simp; with_reducible rfl)
  try simp only [Act.put]
  try simp only [List.setIfInBounds_toArray]
  try simp only [List.set_cons_succ]
  try simp only [List.set_cons_zero]
  refine wpAnyH_take (i := 4) (v := ?_) (at_list rfl) (by kernel_rfl) (by kernel_rfl) (by kernel_rfl) (fun _ _ _ h => h) (Or.inl ⟨by rfl, ?_⟩) (by assumption) ?_
  rotate_left
  · intro w hSw; (try dsimp only at hSw); first | (go_simp; done) | (go_simp; with_reducible rfl)
  try simp only [Act.put]
  try simp only [List.setIfInBounds_toArray]
  try simp only [List.set_cons_succ]
  try simp only [List.set_cons_zero]
  refine wpAnyH_take (i := 7) (v := ?_) (at_list rfl) (by kernel_rfl) (by kernel_rfl) (by kernel_rfl) (fun _ _ _ h => h) (Or.inl ⟨by rfl, ?_⟩) (by assumption) ?_
  rotate_left
  · intro w hSw; (try dsimp only at hSw); first | (go_simp; done) | (go_simp; with_reducible rfl)
  try simp only [Act.put]
  try simp only [List.setIfInBounds_toArray]
  try simp only [List.set_cons_succ]
  try simp only [List.set_cons_zero]
  refine wpAnyH_take (i := 10) (v := ?_) (at_list rfl) (by kernel_rfl) (by kernel_rfl) (by kernel_rfl) (fun _ _ _ h => h) (Or.inl ⟨by rfl, ?_⟩) (by assumption) ?_
  rotate_left
  · intro w hSw; (try dsimp only at hSw); first | (go_simp; done) | (go_simp; with_reducible rfl)
  try simp only [Act.put]
  try simp only [List.setIfInBounds_toArray]
  try simp only [List.set_cons_succ]
  try simp only [List.set_cons_zero]
  refine wpAnyH_take (i := 13) (v := ?_) (at_list rfl) (by kernel_rfl) (by kernel_rfl) (by kernel_rfl) (fun _ _ _ h => h) (Or.inl ⟨by rfl, ?_⟩) (by assumption) ?_
  rotate_left
  · intro w hSw; (try dsimp only at hSw); first | (go_simp; done) | (go_simp; with_reducible rfl)
  try simp only [Act.put]
  try simp only [List.setIfInBounds_toArray]
  try simp only [List.set_cons_succ]
  try simp only [List.set_cons_zero]
  refine wpAnyH_take (i := 14) (v := ?_) (at_list rfl) (by kernel_rfl) (by kernel_rfl) (by kernel_rfl) (fun _ _ _ h => h) (Or.inl ⟨by rfl, ?_⟩) (by assumption) ?_
  rotate_left
  · intro w hSw; (try dsimp only at hSw); first | (go_simp; done) | (go_simp; with_reducible rfl)
  try simp only [Act.put]
  try simp only [List.setIfInBounds_toArray]
  try simp only [List.set_cons_succ]
  try simp only [List.set_cons_zero]
  refine wpAnyH_ready (rs := [15]) (by kernel_rfl) (by simp) ?_
  refine AllReadyH.cons (at_list rfl) (fun K hK => ?_) AllReadyH.nil
  go_simp
  refine hK.out _ _ (trivial) (fun hHeld => ?_)
  clear hK K
  try simp only [Act.put]
  try simp only [List.setIfInBounds_toArray]
  try simp only [List.set_cons_succ]
  try simp only [List.set_cons_zero]
  refine wpAnyH_done (by kernel_rfl) ?_ _
  refine NoPanic.normal ?_
  go_wp2
  rw [← bt_of (show 0 < t.size by omega), ← bt_of (show 1 < t.size by omega), ← bt_of (show 2 < t.size by omega), ← bt_of (show 3 < t.size by omega), ← bt_of (show 4 < t.size by omega)]
  exact bodyPost_ret (v := .agg #[.int .u8 t[0].toNat, .int .i64 t[1].toNat, .int .i64 t[2].toNat, .int .i64 t[3].toNat, .int .i64 t[4].toNat]) (by simp [results, Try.results82, go_sem]) rfl ⟨rfl, ((Below.refl _ _).alloc (Nat.le_refl _) _).drew⟩

set_option maxHeartbeats 2000000 in
theorem isInstruction_any (op r b k n left : Int) (w : World) (hb : (⟨op, r, b, k, n⟩ : Ins).Byt) :
    Calls Try.prog 83 #[.agg #[.int .u8 op, .int .i64 r, .int .i64 b, .int .i64 k, .int .i64 n], .int .i64 left] w
      fun e w' => e = .returned (.bool (knownB ⟨op, r, b, k, n⟩ left)) ∧ Below w.heap.size w w' := by
  obtain ⟨o0, o1, r0, r1, b0, b1, k0, k1, n0, n1⟩ := hb
  simp only at o0 o1 r0 r1 b0 b1 k0 k1 n0 n1
  by_cases h65 : op = 65
  · subst h65
    go_enter Try.func83, Try.ntmps83
    go_wp2
    all_goals (go_ret; exact ⟨ret_bool (by rw [Bool.eq_iff_iff]; simp [knownB]; try omega), (Below.refl _ _).alloc (Nat.le_refl _) _⟩)
  by_cases h71 : op = 71
  · subst h71
    go_enter Try.func83, Try.ntmps83
    go_wp2
    all_goals (go_ret; exact ⟨ret_bool (by rw [Bool.eq_iff_iff]; simp [knownB]; try omega), (Below.refl _ _).alloc (Nat.le_refl _) _⟩)
  by_cases h80 : op = 80
  · subst h80
    go_enter Try.func83, Try.ntmps83
    go_wp2
    all_goals (go_ret; exact ⟨ret_bool (by rw [Bool.eq_iff_iff]; simp [knownB]; try omega), (Below.refl _ _).alloc (Nat.le_refl _) _⟩)
  by_cases h88 : op = 88
  · subst h88
    go_enter Try.func83, Try.ntmps83
    go_wp2
    all_goals (go_ret; exact ⟨ret_bool (by rw [Bool.eq_iff_iff]; simp [knownB]; try omega), (Below.refl _ _).alloc (Nat.le_refl _) _⟩)
  by_cases h82 : op = 82
  · subst h82
    go_enter Try.func83, Try.ntmps83
    go_wp2
    all_goals (go_ret; exact ⟨ret_bool (by rw [Bool.eq_iff_iff]; simp [knownB]; try omega), (Below.refl _ _).alloc (Nat.le_refl _) _⟩)
  by_cases h74 : op = 74
  · subst h74
    go_enter Try.func83, Try.ntmps83
    go_wp2
    all_goals (go_ret; exact ⟨ret_bool (by rw [Bool.eq_iff_iff]; simp [knownB]; try omega), (Below.refl _ _).alloc (Nat.le_refl _) _⟩)
  · have e65 : (op == 65) = false := by simpa using h65
    have e71 : (op == 71) = false := by simpa using h71
    have e80 : (op == 80) = false := by simpa using h80
    have e88 : (op == 88) = false := by simpa using h88
    have e82 : (op == 82) = false := by simpa using h82
    have e74 : (op == 74) = false := by simpa using h74
    have HK := hide (show knownB ⟨op, r, b, k, n⟩ left = false by
      simp only [knownB]
      split
      · rfl
      · split
        · rfl
        · simp [h65, h71, h80])
    have n65 : (op != 65) = true := by simpa using h65
    clear h65 h71 h80 h88 h82 h74
    go_enter Try.func83, Try.ntmps83
    go_wp2
    all_goals (go_ret; exact ⟨ret_bool (by rw [unhide HK]), (Below.refl _ _).alloc (Nat.le_refl _) _⟩)

end Go.Proofs.Ytoihlnjcgopdlab

namespace Go.Proofs.Ytoihlnjcgopdlab
open Go.RowKit

theorem andNot_u64_nat (a b : Nat) (ha : a < 18446744073709551616) :
    ∃ c : Nat, bits BinOp.andNot IntKind.u64 (a : Int) (b : Int) = (c : Int) ∧ c < 18446744073709551616 ∧ ∀ i, c.testBit i = (a.testBit i && !b.testBit i) := by
  refine ⟨(BitVec.ofNat 64 a &&& ~~~ BitVec.ofNat 64 b).toNat, ?_, (BitVec.ofNat 64 a &&& ~~~ BitVec.ofNat 64 b).isLt, fun i => ?_⟩
  · show IntKind.u64.wrap ((BitVec.ofInt 64 (a : Int) &&& ~~~ BitVec.ofInt 64 (b : Int)).toNat : Int) = _
    rw [BitVec.ofInt_natCast, BitVec.ofInt_natCast, IntKind.wrap_u64]
    have := (BitVec.ofNat 64 a &&& ~~~ BitVec.ofNat 64 b).isLt
    omega
  · rw [BitVec.testBit_toNat, BitVec.getLsbD_and, BitVec.getLsbD_not, BitVec.getLsbD_ofNat, BitVec.getLsbD_ofNat]
    by_cases h : i < 64
    · simp [h]
    · have : a.testBit i = false := Nat.testBit_lt_two_pow (Nat.lt_of_lt_of_le ha (by
        rw [show (18446744073709551616 : Nat) = 2 ^ 64 from rfl]; exact Nat.pow_le_pow_right (by omega) (by omega)))
      simp [h, this]
theorem ones_lt {b n x : Nat} (h : b + n ≤ 64) (hx : x < 2 ^ n) : x * 2 ^ b < 18446744073709551616 := by
  rw [show (18446744073709551616 : Nat) = 2 ^ 64 from rfl]
  refine Nat.lt_of_lt_of_le (Nat.mul_lt_mul_of_pos_right hx (Nat.two_pow_pos b)) ?_
  rw [← Nat.pow_add]; exact Nat.pow_le_pow_right (by omega) (by omega)
theorem test_mul (x b i : Nat) : (x * 2 ^ b).testBit i = (decide (b ≤ i) && x.testBit (i - b)) := by
  rw [← Nat.shiftLeft_eq, Nat.testBit_shiftLeft]

theorem putTo_bits {N X b k n : Nat} (hN : N < 18446744073709551616) (hbn : b + n ≤ 64) :
    bits BinOp.or IntKind.u64 (bits BinOp.andNot IntKind.u64 (N : Int) (((2 ^ n - 1) * 2 ^ b : Nat) : Int)) (((X / 2 ^ k % 2 ^ n) * 2 ^ b : Nat) : Int) = ((putTo N X b k n : Nat) : Int) := by
  obtain ⟨c, hc, hl, ht⟩ := andNot_u64_nat N ((2 ^ n - 1) * 2 ^ b) hN
  rw [hc, bits_or_u64_nat _ _ hl (ones_lt hbn (Nat.mod_lt _ (Nat.two_pow_pos n)))]
  congr 1
  apply Nat.eq_of_testBit_eq
  intro i
  rw [Nat.testBit_or, ht, test_mul, test_mul, putTo_test, Nat.testBit_two_pow_sub_one, Nat.testBit_mod_two_pow, Nat.testBit_div_two_pow]
  by_cases h : b ≤ i ∧ i < b + n
  · have h1 : b ≤ i := h.1
    have h2 : i - b < n := by omega
    rw [if_pos h]
    simp [h1, h2, Nat.add_comm]
  · rw [if_neg h]
    by_cases h1 : b ≤ i
    · have h2 : ¬ i - b < n := by omega
      simp [h1, h2]
    · simp [h1]

/-- Only so many bits of what is laid count. -/
theorem putTo_congr {N X Y b k n : Nat} (h : ∀ j, j < k + n → X.testBit j = Y.testBit j) : putTo N X b k n = putTo N Y b k n := by
  induction n with
  | zero => rfl
  | succ n ih => rw [putTo, putTo, ih (fun j hj => h j (by omega)), h (k + n) (by omega)]

/-- What a register is as a uint64. -/
def wide (v : Int) : Nat := (v % 18446744073709551616).toNat
theorem wide_lt (v : Int) : wide v < 18446744073709551616 := by unfold wide; omega
theorem wide_wrap (v : Int) : IntKind.u64.wrap v = (wide v : Int) := by rw [IntKind.wrap_u64, wide]; omega
theorem low_wide (v : Int) : low v = wide v % 2 ^ 32 := by
  have e : (2 : Nat) ^ 32 = 4294967296 := rfl
  rw [e]; unfold low wide; omega
theorem wide_test (v : Int) (j : Nat) (h : j < 32) : (wide v).testBit j = (low v).testBit j := by
  rw [low_wide, Nat.testBit_mod_two_pow]; simp [h]
theorem and_ones (x n : Nat) (hx : x < 18446744073709551616) (hn : n ≤ 64) : bits BinOp.and IntKind.u64 (x : Int) ((2 ^ n - 1 : Nat) : Int) = ((x % 2 ^ n : Nat) : Int) := by
  have h1 : 2 ^ n ≤ 2 ^ 64 := Nat.pow_le_pow_right (by omega) hn
  have e : (2 : Nat) ^ 64 = 18446744073709551616 := rfl
  have h2 : 0 < 2 ^ n := Nat.two_pow_pos n
  rw [bits_and_u64_nat _ _ hx (by omega), Nat.and_two_pow_sub_one_eq_mod]

theorem nat_shift {x b n : Nat} (h : b + n ≤ 64) (hx : x < 2 ^ n) : IntKind.u64.wrap ((x : Int) * 2 ^ b) = ((x * 2 ^ b : Nat) : Int) := by
  have := ones_lt h hx
  have e : ((x : Int) * 2 ^ b) = ((x * 2 ^ b : Nat) : Int) := by simp
  rw [e, IntKind.wrap_u64]
  generalize x * 2 ^ b = y at *
  omega
theorem ones_wrap (n : Nat) (h : n ≤ 63) : IntKind.u64.wrap (IntKind.u64.wrap ((2 : Int) ^ n) - 1) = ((2 ^ n - 1 : Nat) : Int) := by
  have h1 : 2 ^ n ≤ 2 ^ 63 := Nat.pow_le_pow_right (by omega) h
  have e : (2 : Nat) ^ 63 = 9223372036854775808 := rfl
  have h2 : 0 < 2 ^ n := Nat.two_pow_pos n
  have e2 : ((2 : Int) ^ n) = ((2 ^ n : Nat) : Int) := by simp
  rw [e2, IntKind.wrap_u64, IntKind.wrap_u64]
  omega
theorem ones_lt2 (n : Nat) : 2 ^ n - 1 < 2 ^ n := by have : 0 < 2 ^ n := Nat.two_pow_pos n; omega

theorem put_final {N b k n : Nat} (v : Int) (hN : N < 18446744073709551616) (hbn : b + n ≤ 64) (hn : n ≤ 63) (hk : k + n ≤ 32) :
    bits BinOp.or IntKind.u64 (bits BinOp.andNot IntKind.u64 (N : Int) (IntKind.u64.wrap (IntKind.u64.wrap (IntKind.u64.wrap (2 ^ n) - 1) * 2 ^ b)))
      (IntKind.u64.wrap (bits BinOp.and IntKind.u64 (IntKind.u64.wrap v / 2 ^ k) (IntKind.u64.wrap (IntKind.u64.wrap (2 ^ n) - 1)) * 2 ^ b)) = (putTo N (low v) b k n : Nat) := by
  have hle : wide v / 2 ^ k ≤ wide v := Nat.div_le_self _ _
  have hw := wide_lt v
  have e : ((wide v : Int) / 2 ^ k) = ((wide v / 2 ^ k : Nat) : Int) := by simp
  rw [ones_wrap n hn, wide_wrap v, e, and_ones _ _ (by omega) (by omega), nat_shift hbn (ones_lt2 n), nat_shift hbn (Nat.mod_lt _ (Nat.two_pow_pos n)), putTo_bits hN hbn,
    putTo_congr (fun j hj => wide_test v j (by omega))]
theorem get_final {N b k n : Nat} (v : Int) (hN : N < 18446744073709551616) (hkn : k + n ≤ 32) :
    wrap64 (bits BinOp.or IntKind.u64 (bits BinOp.andNot IntKind.u64 (bits BinOp.and IntKind.u64 (IntKind.u64.wrap v) 4294967295) (IntKind.u64.wrap (IntKind.u64.wrap (IntKind.u64.wrap (2 ^ n) - 1) * 2 ^ k)))
      (IntKind.u64.wrap (bits BinOp.and IntKind.u64 ((N : Int) / 2 ^ b) (IntKind.u64.wrap (IntKind.u64.wrap (2 ^ n) - 1)) * 2 ^ k))) = (putTo (low v) N k b n : Nat) := by
  have hle : N / 2 ^ b ≤ N := Nat.div_le_self _ _
  have hw := wide_lt v
  have hlw := low_lt v
  have e : ((N : Int) / 2 ^ b) = ((N / 2 ^ b : Nat) : Int) := by simp
  have e32 : (4294967295 : Int) = ((2 ^ 32 - 1 : Nat) : Int) := rfl
  have p32 : (2 : Nat) ^ 32 = 4294967296 := rfl
  rw [ones_wrap n (by omega), wide_wrap v, e32, and_ones _ 32 hw (by omega), ← low_wide, e, and_ones _ _ (by omega) (by omega), nat_shift (n := n) (by omega) (ones_lt2 n), nat_shift (n := n) (by omega) (Nat.mod_lt _ (Nat.two_pow_pos n)), putTo_bits (by omega) (by omega)]
  have := putTo_lt (m := 32) N k b n (N := low v) (by omega) (by omega)
  simp only [wrap64]
  omega

end Go.Proofs.Ytoihlnjcgopdlab

namespace Go.Proofs.Ytoihlnjcgopdlab
open Go.RowKit

set_option maxHeartbeats 1000000 in
theorem putBits_any (N : Nat) (v op r b k n : Int) (w : World) (hN : N < 18446744073709551616) (b0 : 0 ≤ b) (b1 : b ≤ 63) (n1 : 1 ≤ n) (h8 : b % 8 + n ≤ 8) (k0 : 0 ≤ k) (h32 : k + n ≤ 32) :
    Calls Try.prog 85 #[.int .u64 N, .int .i64 v, .agg #[.int .u8 op, .int .i64 r, .int .i64 b, .int .i64 k, .int .i64 n]] w
      fun e w' => e = .returned (.int .u64 (putTo N (low v) b.toNat k.toNat n.toNat : Nat)) ∧ Below w.heap.size w w' := by
  go_enter Try.func85, Try.ntmps85
  go_wp2
  go_ret
  refine ⟨ret_u64 ?_, ?_⟩
  · exact put_final v hN (by omega) (by omega) (by omega)
  · exact (Below.refl _ _).alloc (Nat.le_refl _) _

set_option maxHeartbeats 1000000 in
theorem getBits_any (N : Nat) (v op r b k n : Int) (w : World) (hN : N < 18446744073709551616) (b0 : 0 ≤ b) (b1 : b ≤ 63) (n1 : 1 ≤ n) (k0 : 0 ≤ k) (h32 : k + n ≤ 32) :
    Calls Try.prog 84 #[.int .i64 v, .int .u64 N, .agg #[.int .u8 op, .int .i64 r, .int .i64 b, .int .i64 k, .int .i64 n]] w
      fun e w' => e = .returned (.int .i64 (putTo (low v) N k.toNat b.toNat n.toNat : Nat)) ∧ Below w.heap.size w w' := by
  go_enter Try.func84, Try.ntmps84
  go_wp2
  go_ret
  refine ⟨ret_int ?_, ?_⟩
  · exact get_final v hN (by omega)
  · exact (Below.refl _ _).alloc (Nat.le_refl _) _

end Go.Proofs.Ytoihlnjcgopdlab

namespace Go.Proofs.Ytoihlnjcgopdlab
open Go.RowKit

/-- The cells of an instruction in the program's row; what the slice value v reads as. -/
def Ins.cells (x : Ins) : List Value := [.int .u8 x.op, .int .i64 x.r, .int .i64 x.b, .int .i64 x.k, .int .i64 x.n]
def InsAt (w : World) (v : Value) (L : List Ins) : Prop := w.ownsRow 0 121 5 v L.length (L.flatMap Ins.cells)

/-- The program's machine, in its block. -/
def mcells (s : St) : List Value := [.int .i64 (s.reg 0), .int .i64 (s.reg 1), .int .i64 (s.reg 2), .int .i64 (s.reg 3), .int .i64 (s.reg 4), .int .i64 (s.reg 5), .int .i64 (s.reg 6), .int .i64 (s.reg 7),
  .bool (s.mark 0), .bool (s.mark 1), .bool (s.mark 2), .bool (s.mark 3), .bool (s.mark 4), .bool (s.mark 5), .bool (s.mark 6), .bool (s.mark 7), .int .u64 s.N]
def MachAt (w : World) (g : Nat) (s : St) : Prop := w.ownsRow g 96 17 (.slice (some ⟨g, 0, none⟩) 1 1) 1 (mcells s)

theorem eight {r : Nat} (h : r < 8) : r = 0 ∨ r = 1 ∨ r = 2 ∨ r = 3 ∨ r = 4 ∨ r = 5 ∨ r = 6 ∨ r = 7 := by omega
theorem MachAt.reg {w : World} {g : Nat} {s : St} (h : MachAt w g s) {r : Nat} (hr : r < 8) : w.cell? ⟨g, r, none⟩ = some (.int .i64 (s.reg r)) := by
  rw [World.ownsRow.cellAt h r (by omega)]
  rcases eight hr with rfl | rfl | rfl | rfl | rfl | rfl | rfl | rfl <;> rfl
theorem MachAt.mark {w : World} {g : Nat} {s : St} (h : MachAt w g s) {r : Nat} (hr : r < 8) : w.cell? ⟨g, 8 + r, none⟩ = some (.bool (s.mark r)) := by
  rw [World.ownsRow.cellAt h (8 + r) (by omega)]
  rcases eight hr with rfl | rfl | rfl | rfl | rfl | rfl | rfl | rfl <;> rfl
theorem MachAt.bits {w : World} {g : Nat} {s : St} (h : MachAt w g s) : w.cell? ⟨g, 16, none⟩ = some (.int .u64 s.N) := by
  rw [World.ownsRow.cellAt h 16 (by omega)]; rfl
theorem MachAt.free {w : World} {g : Nat} {s : St} (h : MachAt w g s) (j : Nat) : w.frozen? ⟨g, j, none⟩ = false := World.ownsRow.frozenAt h j
theorem MachAt.setReg {w : World} {g : Nat} {s : St} (h : MachAt w g s) {r : Nat} (hr : r < 8) (v : Int) : MachAt (w.setCell ⟨g, r, none⟩ (.int .i64 v)) g { s with reg := upd s.reg r v } := by
  have := (World.ownsRow.stored h r (.int .i64 v)).1
  unfold MachAt
  rcases eight hr with rfl | rfl | rfl | rfl | rfl | rfl | rfl | rfl <;> exact this
theorem MachAt.setMark {w : World} {g : Nat} {s : St} (h : MachAt w g s) {r : Nat} (hr : r < 8) : MachAt (w.setCell ⟨g, 8 + r, none⟩ (.bool true)) g { s with mark := upd s.mark r true } := by
  have := (World.ownsRow.stored h (8 + r) (.bool true)).1
  unfold MachAt
  rcases eight hr with rfl | rfl | rfl | rfl | rfl | rfl | rfl | rfl <;> exact this
theorem MachAt.setBits {w : World} {g : Nat} {s : St} (h : MachAt w g s) (M : Nat) : MachAt (w.setCell ⟨g, 16, none⟩ (.int .u64 M)) g { s with N := M } := by
  have := (World.ownsRow.stored h 16 (.int .u64 M)).1
  exact this
theorem MachAt.bel {w w' : World} {g : Nat} {s : St} (h : MachAt w g s) (hb : Below w.heap.size w w') : MachAt w' g s := ownsRow_bel h hb
theorem MachAt.lt {w : World} {g : Nat} {s : St} (h : MachAt w g s) : g < w.heap.size := (World.ownsRow.lt h g rfl).2

end Go.Proofs.Ytoihlnjcgopdlab

namespace Go.Proofs.Ytoihlnjcgopdlab
open Go.RowKit

def inAt (L : List Ins) (k : Nat) : Ins := L.getD k ⟨0, 0, 0, 0, 0⟩
theorem inAt_eq (L : List Ins) (k : Nat) (h : k < L.length) : inAt L k = L[k] := by simp [inAt, h]
theorem inAt_some (L : List Ins) (k : Nat) (h : k < L.length) : L[k]? = some (inAt L k) := by rw [inAt_eq L k h]; simp [h]
theorem drop_inAt (L : List Ins) (k : Nat) (h : k < L.length) : L.drop k = inAt L k :: L.drop (k + 1) := by
  rw [inAt_eq L k h]; exact List.drop_eq_getElem_cons h

theorem InsAt.opened {w : World} {v : Value} {L : List Ins} (h : InsAt w v L) :
    (L = [] ∧ (∃ a c, v = .slice a 0 c)) ∨ ∃ g cap, v = .slice (some ⟨g, 0, none⟩) L.length cap ∧ g < w.heap.size ∧ L.length ≤ cap ∧ cap ≤ maxLen ∧
      ∀ k j, k < L.length → j < 5 → w.cell? ⟨g, k * 5 + j, none⟩ = (inAt L k).cells[j]? := by
  have h' := h
  obtain ⟨hl, h2⟩ := h
  rcases h2 with ⟨rfl, hn⟩ | ⟨g, cap, cur, rfl, _, hg, hnc, hcm, hcs, ht⟩
  · exact .inl ⟨List.eq_nil_of_length_eq_zero hn, _, _, rfl⟩
  · refine .inr ⟨g, cap, rfl, (Array.getElem?_eq_some_iff.1 hg).1, hnc, hcm, fun k j hk hj => ?_⟩
    obtain ⟨g', cap', e1, e2, _⟩ := row_cell h' (k * 5 + j) (by omega)
    cases e1
    rw [e2, flat_get Ins.cells 5 (fun _ => rfl) L k j hk hj, inAt_eq L k hk]
theorem cells5 {w wx : World} {g : Nat} {L : List Ins} (hc : ∀ k j, k < L.length → j < 5 → w.cell? ⟨g, k * 5 + j, none⟩ = (inAt L k).cells[j]?) (hg : g < w.heap.size) (hb : Below w.heap.size w wx) {k : Nat} (hk : k < L.length) :
    wx.cell? ⟨g, k * 5, none⟩ = some (.int .u8 (inAt L k).op) ∧ wx.cell? ⟨g, k * 5 + 1, none⟩ = some (.int .i64 (inAt L k).r) ∧ wx.cell? ⟨g, k * 5 + 2, none⟩ = some (.int .i64 (inAt L k).b) ∧ wx.cell? ⟨g, k * 5 + 3, none⟩ = some (.int .i64 (inAt L k).k) ∧ wx.cell? ⟨g, k * 5 + 4, none⟩ = some (.int .i64 (inAt L k).n) := by
  refine ⟨?_, ?_, ?_, ?_, ?_⟩
  · rw [hb.cell (p := ⟨g, k * 5, none⟩) hg]; exact hc k 0 hk (by omega)
  · rw [hb.cell (p := ⟨g, k * 5 + 1, none⟩) hg]; exact hc k 1 hk (by omega)
  · rw [hb.cell (p := ⟨g, k * 5 + 2, none⟩) hg]; exact hc k 2 hk (by omega)
  · rw [hb.cell (p := ⟨g, k * 5 + 3, none⟩) hg]; exact hc k 3 hk (by omega)
  · rw [hb.cell (p := ⟨g, k * 5 + 4, none⟩) hg]; exact hc k 4 hk (by omega)

set_option maxRecDepth 100000 in
set_option maxHeartbeats 4000000 in
theorem run_any (g : Nat) (vp : Value) (L : List Ins) (s : St) (w0 w : World) (hp : InsAt w0 vp L) (h0 : w0.heap.size ≤ g) (hb0 : Below w0.heap.size w0 w) (hm : MachAt w g s) (hN : s.N < 18446744073709551616) (hf : Fine L) (hl : L.length ≤ 96) :
    Calls Try.prog 53 #[.pointer (some ⟨g, 0, none⟩), vp] w fun e w' => e = .returned (.tuple #[.int .i64 (runL L s).2.1, .int .i64 (runL L s).2.2]) ∧ MachAt w' g (runL L s).1 ∧ (runL L s).1.N < 18446744073709551616 ∧ Below g w w' := by
  rcases hp.opened with ⟨rfl, a, cc, rfl⟩ | ⟨gp, cap, rfl, hgp, hcap, hcm, hc⟩
  · go_enter Try.func53, Try.ntmps53
    go_wp2
    refine wp_loop_rounds 1 ?_
    rw [rounds_succ]
    go_wp2
    go_ret2
    exact ⟨rfl, hm, hN, Below.refl _ _⟩
  have HP := hide hc
  have HB0 := hide hb0
  have HM := hide hm
  have HN := hide hN
  have HF := hide hf
  clear hc hb0 hm hN hf hp
  go_enter Try.func53, Try.ntmps53
  go_wp2
  go_loopw [6] (fun i wr => ∃ (a : Nat) (S : St), i = .int .i64 a ∧ a ≤ L.length ∧ MachAt wr g S ∧ S.N < 18446744073709551616 ∧ Below g w wr ∧ runL (L.drop a) S = runL L s) (fun i _ => L.length - (intOf i).toNat)
  case atStart => exact ⟨0, s, rfl, by omega, unhide HM, unhide HN, Below.refl _ _, rfl⟩
  case round =>
    obtain ⟨a, S, rfl, ha, hma, hSN, hbw, hrun⟩ := hrel
    have HMA := hide hma
    have HSN := hide hSN
    have HBW := hide hbw
    have HRUN := hide hrun
    clear hma hSN hbw hrun
    by_cases hlt : a < L.length
    · obtain ⟨x, HX⟩ : ∃ x, Hid (x = inAt L a) := ⟨_, hide rfl⟩
      have hcx := cells5 (unhide HP) hgp ((unhide HB0).trans ((unhide HBW).mono h0)) hlt
      rw [← unhide HX] at hcx
      obtain ⟨hbyt, hkn⟩ := unhide HF a x (by rw [unhide HX]; exact inAt_some L a hlt)
      rw [drop_inAt L a hlt, ← unhide HX, runL_cons] at HRUN
      obtain ⟨op, r, b, k, n⟩ := x
      obtain ⟨c0, c1, c2, c3, c4⟩ := hcx
      have HKN := hide hkn
      have HBY := hide hbyt
      have hr7 := known_r hkn
      have hop := known_op hkn
      simp only at hr7 hop c0 c1 c2 c3 c4
      have hr0 : 0 ≤ r := hbyt.r0
      obtain ⟨q, rfl⟩ : ∃ q : Nat, r = q := ⟨r.toNat, by omega⟩
      have hq : q < 8 := by omega
      clear hkn hbyt
      have hi0 : (0 : Int) ≤ (a : Int) := by omega
      have hi1 : (a : Int) < (L.length : Int) := by omega
      have hreg := (unhide HMA).reg hq
      have hlg := (unhide HMA).lt
      have hbx := fun (wx : World) (h : Below (wr.heap.size + 1) (wr.alloc (.cells #[.int .u8 op, .int .i64 q, .int .i64 b, .int .i64 k, .int .i64 n] 121)) wx) => box_cell h
      have hrg : ∀ wx : World, Below (wr.heap.size + 1) (wr.alloc (.cells #[.int .u8 op, .int .i64 q, .int .i64 b, .int .i64 k, .int .i64 n] 121)) wx → wx.cell? ⟨g, q, none⟩ = some (.int .i64 (S.reg q)) := fun wx h => by
        rw [(box_below h).cell (p := ⟨g, q, none⟩) hlg]; exact hreg
      go_wp2
      refine wp_region_noPanic ?_
      refine wp_region_held_drew (S := fun wx => Below (wr.heap.size + 1) (wr.alloc (.cells #[.int .u8 op, .int .i64 q, .int .i64 b, .int .i64 k, .int .i64 n] 121)) wx) (by kernel_rfl) ((Below.refl _ _).drew) (fun hHeld => ?_)
      refine wpAnyH_take (i := 0) (v := ?_) (at_list rfl) (by kernel_rfl) (by kernel_rfl) (by kernel_rfl) (fun _ _ _ h => h) (Or.inl ⟨by rfl, ?_⟩) (by assumption) ?_
      rotate_left
      · intro w hSw; (try dsimp only at hSw); first | (go_simp; done) | (go_simp; with_reducible rfl)
      try simp only [Act.put]
      try simp only [List.setIfInBounds_toArray]
      try simp only [List.set_cons_succ]
      try simp only [List.set_cons_zero]
      refine wpAnyH_take (i := 1) (v := ?_) (at_list rfl) (by kernel_rfl) (by kernel_rfl) (by kernel_rfl) (fun _ _ _ h => h) (Or.inl ⟨by rfl, ?_⟩) (by assumption) ?_
      rotate_left
      · intro w hSw; (try dsimp only at hSw); first | (go_simp; done) | (go_simp; with_reducible rfl)
      try simp only [Act.put]
      try simp only [List.setIfInBounds_toArray]
      try simp only [List.set_cons_succ]
      try simp only [List.set_cons_zero]
      refine wpAnyH_take (i := 2) (v := ?_) (at_list rfl) (by kernel_rfl) (by kernel_rfl) (by kernel_rfl) (fun _ _ _ h => h) (Or.inl ⟨by rfl, ?_⟩) (by assumption) ?_
      rotate_left
      · intro w hSw; (try dsimp only at hSw); first | (go_simp; done) | (go_simp; with_reducible rfl)
      try simp only [Act.put]
      try simp only [List.setIfInBounds_toArray]
      try simp only [List.set_cons_succ]
      try simp only [List.set_cons_zero]
      refine wpAnyH_take (i := 3) (v := ?_) (at_list rfl) (by kernel_rfl) (by kernel_rfl) (by kernel_rfl) (fun _ _ _ h => h) (Or.inl ⟨by rfl, ?_⟩) (by assumption) ?_
      rotate_left
      · intro w hSw; (try dsimp only at hSw); first | (go_simp; done) | (go_simp; with_reducible rfl)
      try simp only [Act.put]
      try simp only [List.setIfInBounds_toArray]
      try simp only [List.set_cons_succ]
      try simp only [List.set_cons_zero]
      refine wpAnyH_take (i := 4) (v := ?_) (at_list rfl) (by kernel_rfl) (by kernel_rfl) (by kernel_rfl) (fun _ _ _ h => h) (Or.inl ⟨by rfl, ?_⟩) (by assumption) ?_
      rotate_left
      · intro w hSw; (try dsimp only at hSw); first | (go_simp; done) | (go_simp; with_reducible rfl)
      try simp only [Act.put]
      try simp only [List.setIfInBounds_toArray]
      try simp only [List.set_cons_succ]
      try simp only [List.set_cons_zero]
      refine wpAnyH_take (i := 5) (v := ?_) (at_list rfl) (by kernel_rfl) (by kernel_rfl) (by kernel_rfl) (fun _ _ _ h => h) (Or.inl ⟨by rfl, ?_⟩) (by assumption) ?_
      rotate_left
      · intro w hSw; (try dsimp only at hSw); first | (go_simp; done) | (go_simp; with_reducible rfl)
      try simp only [Act.put]
      try simp only [List.setIfInBounds_toArray]
      try simp only [List.set_cons_succ]
      try simp only [List.set_cons_zero]
      refine wpAnyH_take (i := 6) (v := ?_) (at_list rfl) (by kernel_rfl) (by kernel_rfl) (by kernel_rfl) (fun _ _ _ h => h) (Or.inl ⟨by rfl, ?_⟩) (by assumption) ?_
      rotate_left
      · intro w hSw; (try dsimp only at hSw); first | (go_simp; done) | (go_simp; with_reducible rfl)
      try simp only [Act.put]
      try simp only [List.setIfInBounds_toArray]
      try simp only [List.set_cons_succ]
      try simp only [List.set_cons_zero]
      refine wpAnyH_take (i := 7) (v := ?_) (at_list rfl) (by kernel_rfl) (by kernel_rfl) (by kernel_rfl) (fun _ _ _ h => h) (Or.inl ⟨by rfl, ?_⟩) (by assumption) ?_
      rotate_left
      · intro w hSw; (try dsimp only at hSw); first | (go_simp; done) | (go_simp; with_reducible rfl)
      try simp only [Act.put]
      try simp only [List.setIfInBounds_toArray]
      try simp only [List.set_cons_succ]
      try simp only [List.set_cons_zero]
      refine wpAnyH_done (by kernel_rfl) ?_ _
      refine NoPanic.normal ?_
      have HBOX := hide (show (wr.alloc (.cells #[.int .u8 op, .int .i64 q, .int .i64 b, .int .i64 k, .int .i64 n] 121)).drew.heap[wr.heap.size]? = some (.cells #[.int .u8 op, .int .i64 q, .int .i64 b, .int .i64 k, .int .i64 n] 121 (0, 0)) from blk_new _ _)
      have HM7 := hide ((unhide HMA).bel (box_below hHeld))
      have HB7 := hide ((unhide HBW).trans ((box_below hHeld).mono (by omega)))
      have hsb : g ≠ wr.heap.size := by omega
      have hgs : g < (wr.alloc (.cells #[.int .u8 op, .int .i64 q, .int .i64 b, .int .i64 k, .int .i64 n] 121)).drew.heap.size := by have := (box_below hHeld).size; omega
      clear hrg hreg c0 c1 c2 c3 c4 hbx hHeld HMA HBW
      generalize (wr.alloc (.cells #[.int .u8 op, .int .i64 q, .int .i64 b, .int .i64 k, .int .i64 n] 121)).drew = w7 at *
      generalize wr.heap.size = sb at *
      have hk0 := (unhide HBY).k0
      have hb0 := (unhide HBY).b0
      have hn0 := (unhide HBY).n0
      simp only at hk0 hb0 hn0
      have hd := fun (wx : World) (h : wx.heap[sb]? = some (.cells #[.int .u8 op, .int .i64 q, .int .i64 b, .int .i64 k, .int .i64 n] 121 (0, 0))) => blk_cell h
      have hd7 := hd w7 (unhide HBOX)
      rcases hop with rfl | rfl | rfl | rfl | rfl | rfl
      · obtain ⟨n1, b1, h8, h32⟩ := known_move (unhide HKN) (.inl rfl)
        simp only at n1 b1 h8 h32
        have HR := hide (show runL (L.drop (a + 1)) { S with reg := upd S.reg q (putTo (low (S.reg q)) S.N k.toNat b.toNat n.toNat : Nat) } = runL L s by have := unhide HRUN; rw [act_get] at this; simpa using this)
        have hfr := fun (wx : World) (h : MachAt wx g S) => h.free q
        have hrc := fun (wx : World) (h : MachAt wx g S) => h.reg hq
        go_wp2
        clear hd7
        refine wp_region_noPanic ?_
        refine wp_region_held_drew (S := fun wx => wx.heap[sb]? = some (.cells #[.int .u8 71, .int .i64 q, .int .i64 b, .int .i64 k, .int .i64 n] 121 (0, 0)) ∧ wx.cell? ⟨g, 16, none⟩ = some (.int .u64 S.N)) (by kernel_rfl) ⟨unhide HBOX, (unhide HM7).bits⟩ (fun hHeld => ?_)
        have hd0 : ∀ wx : World, (wx.heap[sb]? = some (.cells #[.int .u8 71, .int .i64 q, .int .i64 b, .int .i64 k, .int .i64 n] 121 (0, 0)) ∧ wx.cell? ⟨g, 16, none⟩ = some (.int .u64 S.N)) → ∀ j, wx.cell? ⟨sb, j, none⟩ = _ := fun wx h => hd wx h.1
        have hd1 : ∀ wx : World, (wx.heap[sb]? = some (.cells #[.int .u8 71, .int .i64 q, .int .i64 b, .int .i64 k, .int .i64 n] 121 (0, 0)) ∧ wx.cell? ⟨g, 16, none⟩ = some (.int .u64 S.N)) → wx.cell? ⟨g, 16, none⟩ = some (.int .u64 S.N) := fun wx h => h.2
        refine wpAnyH_take (i := 0) (v := ?_) (at_list rfl) (by kernel_rfl) (by kernel_rfl) (by kernel_rfl) (fun _ _ _ h => h) (Or.inl ⟨by rfl, ?_⟩) (by assumption) ?_
        rotate_left
        · intro w hSw; (try dsimp only at hSw); first | (go_simp; done) | (go_simp; with_reducible rfl)
        try simp only [Act.put]
        try simp only [List.setIfInBounds_toArray]
        try simp only [List.set_cons_succ]
        try simp only [List.set_cons_zero]
        refine wpAnyH_take (i := 1) (v := ?_) (at_list rfl) (by kernel_rfl) (by kernel_rfl) (by kernel_rfl) (fun _ _ _ h => h) (Or.inl ⟨by rfl, ?_⟩) (by assumption) ?_
        rotate_left
        · intro w hSw; (try dsimp only at hSw); first | (go_simp; done) | (go_simp; with_reducible rfl)
        try simp only [Act.put]
        try simp only [List.setIfInBounds_toArray]
        try simp only [List.set_cons_succ]
        try simp only [List.set_cons_zero]
        refine wpAnyH_take (i := 2) (v := ?_) (at_list rfl) (by kernel_rfl) (by kernel_rfl) (by kernel_rfl) (fun _ _ _ h => h) (Or.inl ⟨by rfl, ?_⟩) (by assumption) ?_
        rotate_left
        · intro w hSw; (try dsimp only at hSw); first | (go_simp; done) | (go_simp; with_reducible rfl)
        try simp only [Act.put]
        try simp only [List.setIfInBounds_toArray]
        try simp only [List.set_cons_succ]
        try simp only [List.set_cons_zero]
        refine wpAnyH_take (i := 3) (v := ?_) (at_list rfl) (by kernel_rfl) (by kernel_rfl) (by kernel_rfl) (fun _ _ _ h => h) (Or.inl ⟨by rfl, ?_⟩) (by assumption) ?_
        rotate_left
        · intro w hSw; (try dsimp only at hSw); first | (go_simp; done) | (go_simp; with_reducible rfl)
        try simp only [Act.put]
        try simp only [List.setIfInBounds_toArray]
        try simp only [List.set_cons_succ]
        try simp only [List.set_cons_zero]
        refine wpAnyH_take (i := 4) (v := ?_) (at_list rfl) (by kernel_rfl) (by kernel_rfl) (by kernel_rfl) (fun _ _ _ h => h) (Or.inl ⟨by rfl, ?_⟩) (by assumption) ?_
        rotate_left
        · intro w hSw; (try dsimp only at hSw); first | (go_simp; done) | (go_simp; with_reducible rfl)
        try simp only [Act.put]
        try simp only [List.setIfInBounds_toArray]
        try simp only [List.set_cons_succ]
        try simp only [List.set_cons_zero]
        refine wpAnyH_take (i := 5) (v := ?_) (at_list rfl) (by kernel_rfl) (by kernel_rfl) (by kernel_rfl) (fun _ _ _ h => h) (Or.inl ⟨by rfl, ?_⟩) (by assumption) ?_
        rotate_left
        · intro w hSw; (try dsimp only at hSw); first | (go_simp; done) | (go_simp; with_reducible rfl)
        try simp only [Act.put]
        try simp only [List.setIfInBounds_toArray]
        try simp only [List.set_cons_succ]
        try simp only [List.set_cons_zero]
        refine wpAnyH_take (i := 6) (v := ?_) (at_list rfl) (by kernel_rfl) (by kernel_rfl) (by kernel_rfl) (fun _ _ _ h => h) (Or.inl ⟨by rfl, ?_⟩) (by assumption) ?_
        rotate_left
        · intro w hSw; (try dsimp only at hSw); first | (go_simp; done) | (go_simp; with_reducible rfl)
        try simp only [Act.put]
        try simp only [List.setIfInBounds_toArray]
        try simp only [List.set_cons_succ]
        try simp only [List.set_cons_zero]
        refine wpAnyH_take (i := 7) (v := ?_) (at_list rfl) (by kernel_rfl) (by kernel_rfl) (by kernel_rfl) (fun _ _ _ h => h) (Or.inl ⟨by rfl, ?_⟩) (by assumption) ?_
        rotate_left
        · intro w hSw; (try dsimp only at hSw); first | (go_simp; done) | (go_simp; with_reducible rfl)
        try simp only [Act.put]
        try simp only [List.setIfInBounds_toArray]
        try simp only [List.set_cons_succ]
        try simp only [List.set_cons_zero]
        refine wpAnyH_take (i := 8) (v := ?_) (at_list rfl) (by kernel_rfl) (by kernel_rfl) (by kernel_rfl) (fun _ _ _ h => h) (Or.inl ⟨by rfl, ?_⟩) (by assumption) ?_
        rotate_left
        · intro w hSw; (try dsimp only at hSw); first | (go_simp; done) | (go_simp; with_reducible rfl)
        try simp only [Act.put]
        try simp only [List.setIfInBounds_toArray]
        try simp only [List.set_cons_succ]
        try simp only [List.set_cons_zero]
        refine wpAnyH_take (i := 10) (v := ?_) (at_list rfl) (by kernel_rfl) (by kernel_rfl) (by kernel_rfl) (fun _ _ _ h => h) (Or.inl ⟨by rfl, ?_⟩) (by assumption) ?_
        rotate_left
        · intro w hSw; (try dsimp only at hSw); first | (go_simp; done) | (go_simp; with_reducible rfl)
        try simp only [Act.put]
        try simp only [List.setIfInBounds_toArray]
        try simp only [List.set_cons_succ]
        try simp only [List.set_cons_zero]
        refine wpAnyH_take (i := 11) (v := ?_) (at_list rfl) (by kernel_rfl) (by kernel_rfl) (by kernel_rfl) (fun _ _ _ h => h) (Or.inl ⟨by rfl, ?_⟩) (by assumption) ?_
        rotate_left
        · intro w hSw; (try dsimp only at hSw); first | (go_simp; done) | (go_simp; with_reducible rfl)
        try simp only [Act.put]
        try simp only [List.setIfInBounds_toArray]
        try simp only [List.set_cons_succ]
        try simp only [List.set_cons_zero]
        refine wpAnyH_ready (rs := [9]) (by kernel_rfl) (by simp) ?_
        refine AllReadyH.cons (at_list rfl) (fun K hK => ?_) AllReadyH.nil
        go_simp
        refine (getBits_any S.N (S.reg q) 71 q b k n _ (unhide HSN) hb0 b1 n1 hk0 h32).mono ?_; rintro e w8 ⟨rfl, hb80⟩; have hb8 : Below w7.heap.size w7 w8 := (Below.refl w7.heap.size w7).drew.trans hb80; have HM8 := hide ((unhide HM7).bel hb8); have hS8 := And.intro (blk_below (unhide HBOX) hb8) (unhide HM8).bits; have HB8 := hide ((unhide HB7).trans (hb8.mono (Nat.le_of_lt hgs))); have hfr8 := hfr w8 (unhide HM8); have hrc8 := hrc w8 (unhide HM8); dsimp only
        refine hK.out _ _ (hS8) (fun hHeld => ?_)
        clear hK K
        try simp only [Act.put]
        try simp only [List.setIfInBounds_toArray]
        try simp only [List.set_cons_succ]
        try simp only [List.set_cons_zero]
        refine wpAnyH_take (i := 12) (v := ?_) (at_list rfl) (by kernel_rfl) (by kernel_rfl) (by kernel_rfl) (fun _ _ _ h => h) (Or.inl ⟨by rfl, ?_⟩) (by assumption) ?_
        rotate_left
        · intro w hSw; (try dsimp only at hSw); first | (go_simp; done) | (go_simp; with_reducible rfl)
        try simp only [Act.put]
        try simp only [List.setIfInBounds_toArray]
        try simp only [List.set_cons_succ]
        try simp only [List.set_cons_zero]
        have hS9 := And.intro (blk_set_other (j := q) (.int .i64 (putTo (low (S.reg q)) S.N k.toNat b.toNat n.toNat : Nat)) hHeld.1 hsb.symm) ((unhide HM8).setReg hq (putTo (low (S.reg q)) S.N k.toNat b.toNat n.toNat : Nat)).bits
        refine wpAnyH_ready (rs := [13]) (by kernel_rfl) (by simp) ?_
        refine AllReadyH.cons (at_list rfl) (fun K hK => ?_) AllReadyH.nil
        go_simp
        refine hK.out _ _ (hS9) (fun hHeld => ?_)
        clear hK K
        try simp only [Act.put]
        try simp only [List.setIfInBounds_toArray]
        try simp only [List.set_cons_succ]
        try simp only [List.set_cons_zero]
        refine wpAnyH_done (by kernel_rfl) ?_ _
        refine NoPanic.normal ?_
        clear hd0 hd1 hd hfr hrc
        go_wp2
        go_roundw
        case rel => exact ⟨a + 1, { S with reg := upd S.reg q (putTo (low (S.reg q)) S.N k.toNat b.toNat n.toNat : Nat) }, by go_num, by omega, (unhide HM8).setReg hq _, unhide HSN, (unhide HB8).setCell (Nat.le_refl _) _, unhide HR⟩
        case measure => simp [intOf]; omega
      · obtain ⟨n1, b1, h8, h32⟩ := known_move (unhide HKN) (.inr rfl)
        simp only at n1 b1 h8 h32
        have HR := hide (show runL (L.drop (a + 1)) { S with N := putTo S.N (low (S.reg q)) b.toNat k.toNat n.toNat } = runL L s by have := unhide HRUN; rw [act_put] at this; simpa using this)
        have HPN := hide (show putTo S.N (low (S.reg q)) b.toNat k.toNat n.toNat < 18446744073709551616 from putTo_lt (m := 64) _ _ _ _ (unhide HSN) (by omega))
        go_wp2
        clear hd7
        refine wp_region_noPanic ?_
        refine wp_region_held_drew (S := fun wx => wx.heap[sb]? = some (.cells #[.int .u8 80, .int .i64 q, .int .i64 b, .int .i64 k, .int .i64 n] 121 (0, 0))) (by kernel_rfl) (unhide HBOX) (fun hHeld => ?_)
        have hn7 : w7.drew.cell? ⟨g, 16, none⟩ = some (.int .u64 S.N) := (unhide HM7).bits
        refine wpAnyH_take (i := 0) (v := ?_) (at_list rfl) (by kernel_rfl) (by kernel_rfl) (by kernel_rfl) (fun _ _ _ h => h) (Or.inl ⟨by rfl, ?_⟩) (by assumption) ?_
        rotate_left
        · intro w hSw; (try dsimp only at hSw); first | (go_simp; done) | (go_simp; with_reducible rfl)
        try simp only [Act.put]
        try simp only [List.setIfInBounds_toArray]
        try simp only [List.set_cons_succ]
        try simp only [List.set_cons_zero]
        refine wpAnyH_take (i := 1) (v := ?_) (at_list rfl) (by kernel_rfl) (by kernel_rfl) (by kernel_rfl) (fun _ _ _ h => h) (Or.inl ⟨by rfl, ?_⟩) (by assumption) ?_
        rotate_left
        · intro w hSw; (try dsimp only at hSw); first | (go_simp; done) | (go_simp; with_reducible rfl)
        try simp only [Act.put]
        try simp only [List.setIfInBounds_toArray]
        try simp only [List.set_cons_succ]
        try simp only [List.set_cons_zero]
        refine wpAnyH_take (i := 2) (v := ?_) (at_list rfl) (by kernel_rfl) (by kernel_rfl) (by kernel_rfl) (fun _ _ _ h => h) (Or.inl ⟨by rfl, ?_⟩) (by assumption) ?_
        rotate_left
        · intro w hSw; (try dsimp only at hSw); first | (go_simp; done) | (go_simp; with_reducible rfl)
        try simp only [Act.put]
        try simp only [List.setIfInBounds_toArray]
        try simp only [List.set_cons_succ]
        try simp only [List.set_cons_zero]
        refine wpAnyH_take (i := 3) (v := ?_) (at_list rfl) (by kernel_rfl) (by kernel_rfl) (by kernel_rfl) (fun _ _ _ h => h) (Or.inl ⟨by rfl, ?_⟩) (by assumption) ?_
        rotate_left
        · intro w hSw; (try dsimp only at hSw); first | (go_simp; done) | (go_simp; with_reducible rfl)
        try simp only [Act.put]
        try simp only [List.setIfInBounds_toArray]
        try simp only [List.set_cons_succ]
        try simp only [List.set_cons_zero]
        refine wpAnyH_take (i := 5) (v := ?_) (at_list rfl) (by kernel_rfl) (by kernel_rfl) (by kernel_rfl) (fun _ _ _ h => h) (Or.inl ⟨by rfl, ?_⟩) (by assumption) ?_
        rotate_left
        · intro w hSw; (try dsimp only at hSw); first | (go_simp; done) | (go_simp; with_reducible rfl)
        try simp only [Act.put]
        try simp only [List.setIfInBounds_toArray]
        try simp only [List.set_cons_succ]
        try simp only [List.set_cons_zero]
        refine wpAnyH_take (i := 6) (v := ?_) (at_list rfl) (by kernel_rfl) (by kernel_rfl) (by kernel_rfl) (fun _ _ _ h => h) (Or.inl ⟨by rfl, ?_⟩) (by assumption) ?_
        rotate_left
        · intro w hSw; (try dsimp only at hSw); first | (go_simp; done) | (go_simp; with_reducible rfl)
        try simp only [Act.put]
        try simp only [List.setIfInBounds_toArray]
        try simp only [List.set_cons_succ]
        try simp only [List.set_cons_zero]
        refine wpAnyH_ready (rs := [4]) (by kernel_rfl) (by simp) ?_
        refine AllReadyH.cons (at_list rfl) (fun K hK => ?_) AllReadyH.nil
        go_simp
        refine hK.out _ _ (hHeld) (fun hHeld => ?_)
        clear hK K
        try simp only [Act.put]
        try simp only [List.setIfInBounds_toArray]
        try simp only [List.set_cons_succ]
        try simp only [List.set_cons_zero]
        refine wpAnyH_ready (rs := [7]) (by kernel_rfl) (by simp) ?_
        refine AllReadyH.cons (at_list rfl) (fun K hK => ?_) AllReadyH.nil
        go_simp
        refine (putBits_any S.N (S.reg q) 80 q b k n _ (unhide HSN) hb0 b1 n1 h8 hk0 h32).mono ?_; rintro e w8 ⟨rfl, hb80⟩; have hb8 : Below w7.heap.size w7 w8 := (Below.refl w7.heap.size w7).drew.trans hb80; have HM8 := hide ((unhide HM7).bel hb8); have hS8 := blk_below (unhide HBOX) hb8; have HB8 := hide ((unhide HB7).trans (hb8.mono (Nat.le_of_lt hgs))); have hfr8 := (unhide HM8).free 16; have hrc8 := (unhide HM8).bits; dsimp only
        refine hK.out _ _ (hS8) (fun hHeld => ?_)
        clear hK K
        try simp only [Act.put]
        try simp only [List.setIfInBounds_toArray]
        try simp only [List.set_cons_succ]
        try simp only [List.set_cons_zero]
        refine wpAnyH_take (i := 8) (v := ?_) (at_list rfl) (by kernel_rfl) (by kernel_rfl) (by kernel_rfl) (fun _ _ _ h => h) (Or.inl ⟨by rfl, ?_⟩) (by assumption) ?_
        rotate_left
        · intro w hSw; (try dsimp only at hSw); first | (go_simp; done) | (go_simp; with_reducible rfl)
        try simp only [Act.put]
        try simp only [List.setIfInBounds_toArray]
        try simp only [List.set_cons_succ]
        try simp only [List.set_cons_zero]
        refine wpAnyH_take (i := 9) (v := ?_) (at_list rfl) (by kernel_rfl) (by kernel_rfl) (by kernel_rfl) (fun _ _ _ h => h) (Or.inl ⟨by rfl, ?_⟩) (by assumption) ?_
        rotate_left
        · intro w hSw; (try dsimp only at hSw); first | (go_simp; done) | (go_simp; with_reducible rfl)
        try simp only [Act.put]
        try simp only [List.setIfInBounds_toArray]
        try simp only [List.set_cons_succ]
        try simp only [List.set_cons_zero]
        have hS9 := blk_set_other (j := 16) (.int .u64 (putTo S.N (low (S.reg q)) b.toNat k.toNat n.toNat : Nat)) hHeld hsb.symm
        refine wpAnyH_ready (rs := [10]) (by kernel_rfl) (by simp) ?_
        refine AllReadyH.cons (at_list rfl) (fun K hK => ?_) AllReadyH.nil
        go_simp
        refine hK.out _ _ (hS9) (fun hHeld => ?_)
        clear hK K
        try simp only [Act.put]
        try simp only [List.setIfInBounds_toArray]
        try simp only [List.set_cons_succ]
        try simp only [List.set_cons_zero]
        refine wpAnyH_done (by kernel_rfl) ?_ _
        refine NoPanic.normal ?_
        clear hd
        go_wp2
        go_roundw
        case rel => exact ⟨a + 1, { S with N := putTo S.N (low (S.reg q)) b.toNat k.toNat n.toNat }, by go_num, by omega, (unhide HM8).setBits _, unhide HPN, (unhide HB8).setCell (Nat.le_refl _) _, unhide HR⟩
        case measure => simp [intOf]; omega
      · obtain ⟨n1, h32⟩ := known_x (unhide HKN) rfl
        simp only at n1 h32
        have HR := hide (show runL (L.drop (a + 1)) { S with reg := upd S.reg q (extV (S.reg q) n) } = runL L s by have := unhide HRUN; rw [act_x] at this; simpa using this)
        go_wp2
        clear hd7
        refine wp_region_noPanic ?_
        refine wp_region_held_drew (S := fun wx => wx.heap[sb]? = some (.cells #[.int .u8 88, .int .i64 q, .int .i64 b, .int .i64 k, .int .i64 n] 121 (0, 0))) (by kernel_rfl) (unhide HBOX) (fun hHeld => ?_)
        have hb8 : Below w7.heap.size w7 w7.drew := (Below.refl w7.heap.size w7).drew
        have HM8 := hide ((unhide HM7).bel hb8)
        have HB8 := hide ((unhide HB7).trans (hb8.mono (Nat.le_of_lt hgs)))
        have hfr8 := (unhide HM8).free q
        have hrc8 := (unhide HM8).reg hq
        clear hb8
        refine wpAnyH_take (i := 0) (v := ?_) (at_list rfl) (by kernel_rfl) (by kernel_rfl) (by kernel_rfl) (fun _ _ _ h => h) (Or.inl ⟨by rfl, ?_⟩) (by assumption) ?_
        rotate_left
        · intro w hSw; (try dsimp only at hSw); first | (go_simp; done) | (go_simp; with_reducible rfl)
        try simp only [Act.put]
        try simp only [List.setIfInBounds_toArray]
        try simp only [List.set_cons_succ]
        try simp only [List.set_cons_zero]
        refine wpAnyH_take (i := 1) (v := ?_) (at_list rfl) (by kernel_rfl) (by kernel_rfl) (by kernel_rfl) (fun _ _ _ h => h) (Or.inl ⟨by rfl, ?_⟩) (by assumption) ?_
        rotate_left
        · intro w hSw; (try dsimp only at hSw); first | (go_simp; done) | (go_simp; with_reducible rfl)
        try simp only [Act.put]
        try simp only [List.setIfInBounds_toArray]
        try simp only [List.set_cons_succ]
        try simp only [List.set_cons_zero]
        refine wpAnyH_take (i := 2) (v := ?_) (at_list rfl) (by kernel_rfl) (by kernel_rfl) (by kernel_rfl) (fun _ _ _ h => h) (Or.inl ⟨by rfl, ?_⟩) (by assumption) ?_
        rotate_left
        · intro w hSw; (try dsimp only at hSw); first | (go_simp; done) | (go_simp; with_reducible rfl)
        try simp only [Act.put]
        try simp only [List.setIfInBounds_toArray]
        try simp only [List.set_cons_succ]
        try simp only [List.set_cons_zero]
        refine wpAnyH_take (i := 3) (v := ?_) (at_list rfl) (by kernel_rfl) (by kernel_rfl) (by kernel_rfl) (fun _ _ _ h => h) (Or.inl ⟨by rfl, ?_⟩) (by assumption) ?_
        rotate_left
        · intro w hSw; (try dsimp only at hSw); first | (go_simp; done) | (go_simp; with_reducible rfl)
        try simp only [Act.put]
        try simp only [List.setIfInBounds_toArray]
        try simp only [List.set_cons_succ]
        try simp only [List.set_cons_zero]
        refine wpAnyH_take (i := 4) (v := ?_) (at_list rfl) (by kernel_rfl) (by kernel_rfl) (by kernel_rfl) (fun _ _ _ h => h) (Or.inl ⟨by rfl, ?_⟩) (by assumption) ?_
        rotate_left
        · intro w hSw; (try dsimp only at hSw); first | (go_simp; done) | (go_simp; with_reducible rfl)
        try simp only [Act.put]
        try simp only [List.setIfInBounds_toArray]
        try simp only [List.set_cons_succ]
        try simp only [List.set_cons_zero]
        refine wpAnyH_take (i := 5) (v := ?_) (at_list rfl) (by kernel_rfl) (by kernel_rfl) (by kernel_rfl) (fun _ _ _ h => h) (Or.inl ⟨by rfl, ?_⟩) (by assumption) ?_
        rotate_left
        · intro w hSw; (try dsimp only at hSw); first | (go_simp; done) | (go_simp; with_reducible rfl)
        try simp only [Act.put]
        try simp only [List.setIfInBounds_toArray]
        try simp only [List.set_cons_succ]
        try simp only [List.set_cons_zero]
        refine wpAnyH_take (i := 7) (v := ?_) (at_list rfl) (by kernel_rfl) (by kernel_rfl) (by kernel_rfl) (fun _ _ _ h => h) (Or.inl ⟨by rfl, ?_⟩) (by assumption) ?_
        rotate_left
        · intro w hSw; (try dsimp only at hSw); first | (go_simp; done) | (go_simp; with_reducible rfl)
        try simp only [Act.put]
        try simp only [List.setIfInBounds_toArray]
        try simp only [List.set_cons_succ]
        try simp only [List.set_cons_zero]
        refine wpAnyH_take (i := 8) (v := ?_) (at_list rfl) (by kernel_rfl) (by kernel_rfl) (by kernel_rfl) (fun _ _ _ h => h) (Or.inl ⟨by rfl, ?_⟩) (by assumption) ?_
        rotate_left
        · intro w hSw; (try dsimp only at hSw); first | (go_simp; done) | (go_simp; with_reducible rfl)
        try simp only [Act.put]
        try simp only [List.setIfInBounds_toArray]
        try simp only [List.set_cons_succ]
        try simp only [List.set_cons_zero]
        refine wpAnyH_ready (rs := [6]) (by kernel_rfl) (by simp) ?_
        refine AllReadyH.cons (at_list rfl) (fun K hK => ?_) AllReadyH.nil
        go_simp
        refine (extended_any (S.reg q) n _ n1 h32).mono ?_; rintro e w8 ⟨rfl, rfl⟩; dsimp only
        refine hK.out _ _ (hHeld) (fun hHeld => ?_)
        clear hK K
        try simp only [Act.put]
        try simp only [List.setIfInBounds_toArray]
        try simp only [List.set_cons_succ]
        try simp only [List.set_cons_zero]
        refine wpAnyH_take (i := 9) (v := ?_) (at_list rfl) (by kernel_rfl) (by kernel_rfl) (by kernel_rfl) (fun _ _ _ h => h) (Or.inl ⟨by rfl, ?_⟩) (by assumption) ?_
        rotate_left
        · intro w hSw; (try dsimp only at hSw); first | (go_simp; done) | (go_simp; with_reducible rfl)
        try simp only [Act.put]
        try simp only [List.setIfInBounds_toArray]
        try simp only [List.set_cons_succ]
        try simp only [List.set_cons_zero]
        have hS9 := blk_set_other (j := q) (.int .i64 (extV (S.reg q) n)) hHeld hsb.symm
        refine wpAnyH_ready (rs := [10]) (by kernel_rfl) (by simp) ?_
        refine AllReadyH.cons (at_list rfl) (fun K hK => ?_) AllReadyH.nil
        go_simp
        refine hK.out _ _ (hS9) (fun hHeld => ?_)
        clear hK K
        try simp only [Act.put]
        try simp only [List.setIfInBounds_toArray]
        try simp only [List.set_cons_succ]
        try simp only [List.set_cons_zero]
        refine wpAnyH_done (by kernel_rfl) ?_ _
        refine NoPanic.normal ?_
        clear hd
        go_wp2
        go_roundw
        case rel => exact ⟨a + 1, { S with reg := upd S.reg q (extV (S.reg q) n) }, by go_num, by omega, (unhide HM8).setReg hq _, unhide HSN, (unhide HB8).setCell (Nat.le_refl _) _, unhide HR⟩
        case measure => simp [intOf]; omega
      · obtain ⟨n1, h32, k1⟩ := known_range (unhide HKN) rfl
        simp only at n1 h32 k1
        have hact := act_range (r := (q : Int)) (b := b) (k := k) (n := n) S
        rw [Int.toNat_natCast] at hact
        have HFB := hide (show fitsB (if (k == 1) = true then 115 else 117) n (S.reg q) = fitsB (if k = 1 then 115 else 117) n (S.reg q) by simp)
        cases hfit : fitsB (if k = 1 then 115 else 117) n (S.reg q) with
        | true =>
          have HR := hide (show runL (L.drop (a + 1)) S = runL L s by have := unhide HRUN; rw [hact, hfit] at this; simpa using this)
          rw [hfit] at HFB
          clear hact hfit
          go_wp2_with fail
          refine (inRange_any (S.reg q) n _ _ n1 h32).mono ?_
          rintro e w8 ⟨rfl, rfl⟩
          rw [unhide HFB]
          go_wp2
          go_roundw
          case rel => exact ⟨a + 1, S, by go_num, by omega, unhide HM7, unhide HSN, unhide HB7, unhide HR⟩
          case measure => simp [intOf]; omega
        | false =>
          have HR := hide (show (S, (9 : Int), (q : Int)) = runL L s by have := unhide HRUN; rw [hact, hfit] at this; simpa using this)
          rw [hfit] at HFB
          clear hact hfit
          go_wp2_with fail
          refine (inRange_any (S.reg q) n _ _ n1 h32).mono ?_
          rintro e w8 ⟨rfl, rfl⟩
          rw [unhide HFB]
          go_wp2
          clear hd7
          refine wp_region_noPanic ?_
          refine wp_region_held_drew (S := fun wx => wx.heap[sb]? = some (.cells #[.int .u8 82, .int .i64 q, .int .i64 b, .int .i64 k, .int .i64 n] 121 (0, 0))) (by kernel_rfl) (unhide HBOX) (fun hHeld => ?_)
          have hb8 : Below w7.heap.size w7 w7.drew := (Below.refl w7.heap.size w7).drew
          have HM8 := hide ((unhide HM7).bel hb8)
          have HB8 := hide ((unhide HB7).trans (hb8.mono (Nat.le_of_lt hgs)))
          clear hb8
          refine wpAnyH_take (i := 0) (v := ?_) (at_list rfl) (by kernel_rfl) (by kernel_rfl) (by kernel_rfl) (fun _ _ _ h => h) (Or.inl ⟨by rfl, ?_⟩) (by assumption) ?_
          rotate_left
          · intro w hSw; (try dsimp only at hSw); first | (go_simp; done) | (go_simp; with_reducible rfl)
          try simp only [Act.put]
          try simp only [List.setIfInBounds_toArray]
          try simp only [List.set_cons_succ]
          try simp only [List.set_cons_zero]
          refine wpAnyH_take (i := 1) (v := ?_) (at_list rfl) (by kernel_rfl) (by kernel_rfl) (by kernel_rfl) (fun _ _ _ h => h) (Or.inl ⟨by rfl, ?_⟩) (by assumption) ?_
          rotate_left
          · intro w hSw; (try dsimp only at hSw); first | (go_simp; done) | (go_simp; with_reducible rfl)
          try simp only [Act.put]
          try simp only [List.setIfInBounds_toArray]
          try simp only [List.set_cons_succ]
          try simp only [List.set_cons_zero]
          refine wpAnyH_take (i := 2) (v := ?_) (at_list rfl) (by kernel_rfl) (by kernel_rfl) (by kernel_rfl) (fun _ _ _ h => h) (Or.inl ⟨by rfl, ?_⟩) (by assumption) ?_
          rotate_left
          · intro w hSw; (try dsimp only at hSw); first | (go_simp; done) | (go_simp; with_reducible rfl)
          try simp only [Act.put]
          try simp only [List.setIfInBounds_toArray]
          try simp only [List.set_cons_succ]
          try simp only [List.set_cons_zero]
          refine wpAnyH_take (i := 3) (v := ?_) (at_list rfl) (by kernel_rfl) (by kernel_rfl) (by kernel_rfl) (fun _ _ _ h => h) (Or.inl ⟨by rfl, ?_⟩) (by assumption) ?_
          rotate_left
          · intro w hSw; (try dsimp only at hSw); first | (go_simp; done) | (go_simp; with_reducible rfl)
          try simp only [Act.put]
          try simp only [List.setIfInBounds_toArray]
          try simp only [List.set_cons_succ]
          try simp only [List.set_cons_zero]
          refine wpAnyH_done (by kernel_rfl) ?_ _
          refine NoPanic.normal ?_
          clear hd
          go_wp2
          go_ret2
          exact ⟨by rw [← unhide HR]; rfl, by rw [← unhide HR]; exact unhide HM8, by rw [← unhide HR]; exact unhide HSN, unhide HB8⟩
      · obtain ⟨n1, hnl⟩ := known_jump (unhide HKN) rfl
        simp only at n1 hnl
        have hn255 := (unhide HBY).n1
        simp only at hn255
        have hact := act_jump (r := (q : Int)) (b := b) (k := k) (n := n) S
        rw [Int.toNat_natCast] at hact
        obtain ⟨m, rfl⟩ : ∃ m : Nat, n = m := ⟨n.toNat, by omega⟩
        by_cases hjb : S.reg q = b
        · have HR := hide (show runL (L.drop (a + 1)) S = runL L s by have := unhide HRUN; rw [hact, if_pos hjb] at this; simpa using this)
          have hne : (S.reg q != b) = false := by simp [hjb]
          clear hact hjb
          go_wp2
          go_roundw
          case rel => exact ⟨a + 1, S, by go_num, by omega, unhide HM7, unhide HSN, unhide HB7, unhide HR⟩
          case measure => simp [intOf]; omega
        · have HR := hide (show runL (L.drop (a + 1 + m)) S = runL L s by have := unhide HRUN; rw [hact, if_neg hjb] at this; simpa [List.drop_drop, Nat.add_comm, Nat.add_left_comm, Nat.add_assoc] using this)
          have hne : (S.reg q != b) = true := by simp [hjb]
          clear hact hjb
          go_wp2
          go_roundw
          case rel => exact ⟨a + 1 + m, S, by go_num, by omega, unhide HM7, unhide HSN, unhide HB7, unhide HR⟩
          case measure => simp [intOf]; omega
      · have HR := hide (show runL (L.drop (a + 1)) { S with mark := upd S.mark q true } = runL L s by have := unhide HRUN; rw [act_mark] at this; simpa using this)
        go_wp2
        clear hd7
        refine wp_region_noPanic ?_
        refine wp_region_held_drew (S := fun wx => wx.heap[sb]? = some (.cells #[.int .u8 65, .int .i64 q, .int .i64 b, .int .i64 k, .int .i64 n] 121 (0, 0))) (by kernel_rfl) (unhide HBOX) (fun hHeld => ?_)
        have hb8 : Below w7.heap.size w7 w7.drew := (Below.refl w7.heap.size w7).drew
        have HM8 := hide ((unhide HM7).bel hb8)
        have HB8 := hide ((unhide HB7).trans (hb8.mono (Nat.le_of_lt hgs)))
        have hfr8 := (unhide HM8).free (8 + q)
        have hrc8 := (unhide HM8).mark hq
        clear hb8
        refine wpAnyH_take (i := 0) (v := ?_) (at_list rfl) (by kernel_rfl) (by kernel_rfl) (by kernel_rfl) (fun _ _ _ h => h) (Or.inl ⟨by rfl, ?_⟩) (by assumption) ?_
        rotate_left
        · intro w hSw; (try dsimp only at hSw); first | (go_simp; done) | (go_simp; with_reducible rfl)
        try simp only [Act.put]
        try simp only [List.setIfInBounds_toArray]
        try simp only [List.set_cons_succ]
        try simp only [List.set_cons_zero]
        refine wpAnyH_take (i := 1) (v := ?_) (at_list rfl) (by kernel_rfl) (by kernel_rfl) (by kernel_rfl) (fun _ _ _ h => h) (Or.inl ⟨by rfl, ?_⟩) (by assumption) ?_
        rotate_left
        · intro w hSw; (try dsimp only at hSw); first | (go_simp; done) | (go_simp; with_reducible rfl)
        try simp only [Act.put]
        try simp only [List.setIfInBounds_toArray]
        try simp only [List.set_cons_succ]
        try simp only [List.set_cons_zero]
        refine wpAnyH_take (i := 2) (v := ?_) (at_list rfl) (by kernel_rfl) (by kernel_rfl) (by kernel_rfl) (fun _ _ _ h => h) (Or.inl ⟨by rfl, ?_⟩) (by assumption) ?_
        rotate_left
        · intro w hSw; (try dsimp only at hSw); first | (go_simp; done) | (go_simp; with_reducible rfl)
        try simp only [Act.put]
        try simp only [List.setIfInBounds_toArray]
        try simp only [List.set_cons_succ]
        try simp only [List.set_cons_zero]
        refine wpAnyH_take (i := 3) (v := ?_) (at_list rfl) (by kernel_rfl) (by kernel_rfl) (by kernel_rfl) (fun _ _ _ h => h) (Or.inl ⟨by rfl, ?_⟩) (by assumption) ?_
        rotate_left
        · intro w hSw; (try dsimp only at hSw); first | (go_simp; done) | (go_simp; with_reducible rfl)
        try simp only [Act.put]
        try simp only [List.setIfInBounds_toArray]
        try simp only [List.set_cons_succ]
        try simp only [List.set_cons_zero]
        refine wpAnyH_take (i := 4) (v := ?_) (at_list rfl) (by kernel_rfl) (by kernel_rfl) (by kernel_rfl) (fun _ _ _ h => h) (Or.inl ⟨by rfl, ?_⟩) (by assumption) ?_
        rotate_left
        · intro w hSw; (try dsimp only at hSw); first | (go_simp; done) | (go_simp; with_reducible rfl)
        try simp only [Act.put]
        try simp only [List.setIfInBounds_toArray]
        try simp only [List.set_cons_succ]
        try simp only [List.set_cons_zero]
        refine wpAnyH_take (i := 5) (v := ?_) (at_list rfl) (by kernel_rfl) (by kernel_rfl) (by kernel_rfl) (fun _ _ _ h => h) (Or.inl ⟨by rfl, ?_⟩) (by assumption) ?_
        rotate_left
        · intro w hSw; (try dsimp only at hSw); first | (go_simp; done) | (go_simp; with_reducible rfl)
        try simp only [Act.put]
        try simp only [List.setIfInBounds_toArray]
        try simp only [List.set_cons_succ]
        try simp only [List.set_cons_zero]
        have hS9 := blk_set_other (j := 8 + q) (.bool true) hHeld hsb.symm
        refine wpAnyH_ready (rs := [6]) (by kernel_rfl) (by simp) ?_
        refine AllReadyH.cons (at_list rfl) (fun K hK => ?_) AllReadyH.nil
        go_simp
        refine hK.out _ _ (hS9) (fun hHeld => ?_)
        clear hK K
        try simp only [Act.put]
        try simp only [List.setIfInBounds_toArray]
        try simp only [List.set_cons_succ]
        try simp only [List.set_cons_zero]
        refine wpAnyH_done (by kernel_rfl) ?_ _
        refine NoPanic.normal ?_
        clear hd
        go_wp2
        go_roundw
        case rel => exact ⟨a + 1, { S with mark := upd S.mark q true }, by go_num, by omega, (unhide HM8).setMark hq, unhide HSN, (unhide HB8).setCell (Nat.le_refl _) _, unhide HR⟩
        case measure => simp [intOf]; omega
    · have HR := hide (show (S, (0 : Int), (0 : Int)) = runL L s by rw [← unhide HRUN, List.drop_of_length_le (by omega), runL_nil])
      go_wp2
      go_ret2
      exact ⟨by rw [← unhide HR]; rfl, by rw [← unhide HR]; exact unhide HMA, by rw [← unhide HR]; exact unhide HSN, unhide HBW⟩

end Go.Proofs.Ytoihlnjcgopdlab

namespace Go.Proofs.Ytoihlnjcgopdlab
open Go.RowKit

/-- How many instructions a code has, a part of one counted. -/
def cntI (s : ByteArray) : Nat := (s.size + 4) / 5
def badB (s : ByteArray) (i : Nat) : Bool := decide (s.size < 5 * i + 5) || !knownB (insAt s i) ((cntI s : Int) - 1 - i)
def vIx (s : ByteArray) : Nat := firstIx (badB s) (cntI s)
/-- What the program's Verify answers. -/
def vE (s : ByteArray) : Int := if 480 < s.size then 1 else if vIx s < cntI s then 11 else 0
def vP (s : ByteArray) : Int := if 480 < s.size then 0 else if vIx s < cntI s then vIx s else 0
def codeTo (s : ByteArray) (k : Nat) : List Ins := (List.range k).map (insAt s)
def codeL (s : ByteArray) : List Ins := codeTo s (cntI s)
theorem codeTo_len (s : ByteArray) (k : Nat) : (codeTo s k).length = k := by simp [codeTo]
theorem codeTo_succ (s : ByteArray) (k : Nat) : codeTo s (k + 1) = codeTo s k ++ [insAt s k] := by simp [codeTo, List.range_succ]
theorem codeTo_get (s : ByteArray) (k i : Nat) (h : i < k) : (codeTo s k)[i]? = some (insAt s i) := by simp [codeTo, h]

theorem vE_zero {s : ByteArray} (h : vE s = 0) : s.size ≤ 480 ∧ (∀ i, i < cntI s → badB s i = false) := by
  unfold vE at h
  split at h
  · omega
  · split at h
    · omega
    · rename_i h1 h2
      refine ⟨by omega, fun i hi => ?_⟩
      have := firstIx_le (badB s) (cntI s)
      exact firstIx_no (badB s) (cntI s) i (by unfold vIx at h2; omega)
theorem code_fine {s : ByteArray} (h : vE s = 0) : Fine (codeL s) ∧ (codeL s).length ≤ 96 := by
  obtain ⟨h1, h2⟩ := vE_zero h
  rw [codeL]
  refine ⟨?_, by rw [codeTo_len]; unfold cntI; omega⟩
  intro i x hx
  rw [codeTo_len]
  by_cases hi : i < cntI s
  · rw [codeTo_get s _ i hi] at hx
    cases hx
    have := h2 i hi
    simp only [badB, Bool.or_eq_false_iff, Bool.not_eq_false'] at this
    exact ⟨insAt_byt s i, this.2⟩
  · rw [List.getElem?_eq_none (by rw [codeTo_len]; omega)] at hx; cases hx

theorem rdIns_at (s : ByteArray) (k : Nat) (w : World) (h : 5 * k + 5 ≤ s.size) :
    Calls Try.prog 82 #[.string (s.extract (5 * k) (5 * k + 5))] w fun e w' =>
      e = .returned (.agg #[.int .u8 (insAt s k).op, .int .i64 (insAt s k).r, .int .i64 (insAt s k).b, .int .i64 (insAt s k).k, .int .i64 (insAt s k).n]) ∧ Below w.heap.size w w' := by
  refine (readInstruction_any (s.extract (5 * k) (5 * k + 5)) w (by rw [ByteArray.size_extract]; omega)).mono ?_
  rintro e w' ⟨rfl, hb⟩
  refine ⟨?_, hb⟩
  rw [bt_extract s _ 5 0 (by omega) (by omega), bt_extract s _ 5 1 (by omega) (by omega), bt_extract s _ 5 2 (by omega) (by omega), bt_extract s _ 5 3 (by omega) (by omega), bt_extract s _ 5 4 (by omega) (by omega)]
  rfl

theorem Try.infoIns : (Try.prog.info? 121).map (fun i => (i.zero, i.size, i.bytes)) = some (some (.agg #[.int .u8 0, .int .i64 0, .int .i64 0, .int .i64 0, .int .i64 0]), 5, 40) := by kernel_rfl

set_option maxRecDepth 100000 in
set_option maxHeartbeats 2000000 in
theorem soundCode_any (s : ByteArray) (w : World) :
    Calls Try.prog 52 #[.string s] w fun e w' => (∃ a n cap, e = .returned (.tuple #[.slice a n cap, .int .i64 (vE s), .int .i64 (vP s)]) ∧ (vE s = 0 → InsAt w' (.slice a n cap) (codeL s))) ∧ Below w.heap.size w w' := by
  by_cases hlong : 480 < s.size
  · have HE := hide (show vE s = 1 ∧ vP s = 0 by simp [vE, vP, hlong])
    have hg : (480 : Int) < (s.size : Int) := by omega
    go_enter Try.func52, Try.ntmps52
    go_wp2
    go_ret3
    exact ⟨⟨none, 0, 0, by rw [(unhide HE).1, (unhide HE).2]; rfl, fun h => by rw [(unhide HE).1] at h; omega⟩, Below.refl _ _⟩
  obtain ⟨i0, hinf, hz0, hz1, hz2⟩ := info_parts Try.infoIns
  have HINF := hide hinf
  have HZ0 := hide hz0
  have HZ1 := hide hz1
  have HZ2 := hide hz2
  clear hinf hz0 hz1 hz2
  obtain ⟨c, HC⟩ : ∃ c, Hid (c = cntI s) := ⟨_, hide rfl⟩
  have hc1 : c ≤ 96 := by rw [unhide HC]; unfold cntI; omega
  have hc2 : ((s.size : Int) + 5 - 1) / 5 = (c : Int) := by rw [unhide HC]; unfold cntI; omega
  have hl2 : (s.size : Int) ≤ 480 := by omega
  go_enter Try.func52, Try.ntmps52
  go_wp2
  rw [hc2]
  clear hc2
  go_loopw [6, 7] (fun v i wr => ∃ k : Nat, k ≤ c ∧ i = .int .i64 k ∧ wr.ownsRow w.heap.size 121 5 v k ((codeTo s k).flatMap Ins.cells) ∧ (∀ j, j < k → badB s j = false) ∧ Below w.heap.size w wr) (fun _ i _ => c - (intOf i).toNat)
  case atStart => exact ⟨0, by omega, rfl, ⟨by simp [codeTo], .inr ⟨_, 0, #[], rfl, Nat.le_refl _, blk_new _ _, by simp, by simp [maxLen], by simp, by simp [codeTo]⟩⟩, by intro j hj; omega, (Below.refl _ _).alloc (Nat.le_refl _) _⟩
  case round =>
    obtain ⟨k, hk, rfl, hown, hno, hb⟩ := hrel
    obtain ⟨sa, cap, rfl⟩ := ownsRow_form hown
    have HOWN := hide hown
    have HNO := hide hno
    have HB := hide hb
    clear hown hno hb
    by_cases hlt : k < c
    · by_cases hsz : s.size < 5 * k + 5
      · have hbad : badB s k = true := by simp [badB, hsz]
        have hix : vIx s = k := firstIx_is (unhide HNO) (by rw [← unhide HC]; exact hlt) hbad
        have HE := hide (show vE s = 11 ∧ vP s = k by rw [vE, vP, if_neg hlong, if_neg hlong, hix, if_pos (by rw [← unhide HC]; exact hlt), if_pos (by rw [← unhide HC]; exact hlt)]; exact ⟨rfl, rfl⟩)
        clear hbad hix
        have hq : (s.size : Int) < 5 * (k : Int) + 5 := by omega
        go_wp2
        go_ret3
        exact ⟨⟨none, 0, 0, by rw [(unhide HE).1, (unhide HE).2]; rfl, fun h => by rw [(unhide HE).1] at h; omega⟩, unhide HB⟩
      · have hq : ¬ (s.size : Int) < 5 * (k : Int) + 5 := by omega
        have hq2 : 5 * (k : Int) + 5 ≤ (s.size : Int) := by omega
        obtain ⟨x, HX⟩ : ∃ x, Hid (x = insAt s k) := ⟨_, hide rfl⟩
        have hby := insAt_byt s k
        rw [← unhide HX] at hby
        have HBY := hide hby
        clear hby
        go_wp2_with fail
        refine (rdIns_at s k _ (by omega)).mono ?_
        rintro e w1 ⟨rfl, hb1⟩
        rw [← unhide HX]
        have HOWN1 := hide (ownsRow_bel (unhide HOWN) hb1)
        have HB1 := hide ((unhide HB).trans (hb1.mono (unhide HB).size))
        clear hb1 hq
        go_wp2_with fail
        refine (isInstruction_any x.op x.r x.b x.k x.n ((c : Int) - 1 - k) _ (unhide HBY)).mono ?_
        rintro e w2 ⟨rfl, hb2⟩
        have HB2 : Hid (Below (w1.heap.size + 1) (w1.alloc (.cells #[.int .u8 x.op, .int .i64 x.r, .int .i64 x.b, .int .i64 x.k, .int .i64 x.n] 121)) w2) := hide (hb2.mono (by simp))
        have hbw := box_cell (unhide HB2)
        have HB2' := hide ((unhide HB1).trans ((box_below (unhide HB2)).mono (unhide HB1).size))
        have HOWN2 := hide (ownsRow_bel (unhide HOWN1) (box_below (unhide HB2)))
        clear hb2
        cases hkn : knownB ⟨x.op, x.r, x.b, x.k, x.n⟩ ((c : Int) - 1 - k) with
        | false =>
          have hbad : badB s k = true := by
            rw [badB, ← unhide HX, ← unhide HC]
            have : knownB x ((c : Int) - 1 - k) = false := hkn
            simp [this]
          have hix : vIx s = k := firstIx_is (unhide HNO) (by rw [← unhide HC]; exact hlt) hbad
          have HE := hide (show vE s = 11 ∧ vP s = k by rw [vE, vP, if_neg hlong, if_neg hlong, hix, if_pos (by rw [← unhide HC]; exact hlt), if_pos (by rw [← unhide HC]; exact hlt)]; exact ⟨rfl, rfl⟩)
          clear hbad hix
          go_wp2
          go_ret3
          exact ⟨⟨none, 0, 0, by rw [(unhide HE).1, (unhide HE).2]; rfl, fun h => by rw [(unhide HE).1] at h; omega⟩, unhide HB2'⟩
        | true =>
          have hgood : badB s k = false := by
            rw [badB, ← unhide HX, ← unhide HC]
            have : knownB x ((c : Int) - 1 - k) = true := hkn
            simp [this]; omega
          have HGO := hide hgood
          clear hgood
          go_wp2_with (at_builtin; refine wpList_append_own _ rfl _ _ 90 rfl w.heap.size 121 i0 _ 5 40 Try.underlying90 (unhide HINF) (unhide HZ0) (unhide HZ1) (unhide HZ2) rfl (by decide) _ _ _ rfl ((unhide HOWN2).alloc _) ⟨w2.heap.size, 0, none⟩ 1 1 x.cells rfl rfl ?c1 ?c2 ?c3 ?c4 ?c5 ?_)
          case c1 => exact new_cells (blk_new _ _)
          case c2 => simp [Ins.cells, Value.oneCell']
          case c3 => unfold maxLen; omega
          case c4 => omega
          case c5 => have := (unhide HB2').size; simp; omega
          intro v3 w3 hown3 hgrow _
          obtain ⟨a3, cap3, rfl⟩ := ownsRow_form hown3
          have HB3 := hide (Below.grown ((unhide HB2').alloc (unhide HB2').size _) hgrow (by have := (unhide HB2').size; simp; omega) (fun k hk => ((unhide HOWN2).lt k hk).1))
          have HOWN3 := hide hown3
          clear hown3 hgrow hbw
          go_wp2
          go_roundw
          case rel =>
            refine ⟨k + 1, by omega, by go_num, ?_, fun j hj => ?_, unhide HB3⟩
            · have := unhide HOWN3
              rw [codeTo_succ, List.flatMap_append, ← unhide HX]
              simpa using this
            · by_cases e : j = k
              · subst e; exact unhide HGO
              · exact unhide HNO j (by omega)
          case measure => simp [intOf]; omega
    · have hkc : k = cntI s := by rw [← unhide HC]; omega
      have HE := hide (show vE s = 0 ∧ vP s = 0 by
        have : ¬ vIx s < cntI s := by rw [vIx, firstIx_none (fun j hj => unhide HNO j (by omega))]; omega
        rw [vE, vP, if_neg hlong, if_neg hlong, if_neg this, if_neg this]; exact ⟨rfl, rfl⟩)
      have HKC := hide hkc
      clear hkc
      go_wp2
      go_ret3
      refine ⟨⟨_, _, _, by rw [(unhide HE).1, (unhide HE).2]; rfl, fun _ => ?_⟩, unhide HB⟩
      have := ownsRow_base (unhide HOWN)
      rw [unhide HKC] at this ⊢
      rw [InsAt, codeL, codeTo_len]
      exact this

end Go.Proofs.Ytoihlnjcgopdlab

namespace Go.Proofs.Ytoihlnjcgopdlab
open Go.RowKit

/-- What is run: the values in the registers, no mark, no bit. -/
def st0 (Z : List Int) : St := ⟨zAt Z, fun _ => false, 0⟩
/-- P9, as the program answers it. -/
def fillOut (s : ByteArray) (Z : List Int) (sz : Int) : ByteArray × Int × Int :=
  if vE s ≠ 0 then (noBytes, vE s, vP s) else if sz < 0 ∨ 8 < sz then (noBytes, 10, 0) else if 8 < Z.length then (noBytes, 8, 0)
  else if (runL (codeL s) (st0 Z)).2.1 ≠ 0 then (noBytes, (runL (codeL s) (st0 Z)).2.1, (runL (codeL s) (st0 Z)).2.2) else (payB (runL (codeL s) (st0 Z)).1.N sz.toNat, 0, 0)

/-- The first k values are in. -/
def stTo (Z : List Int) (k : Nat) : St := ⟨fun j => if j < k then zAt Z j else 0, fun _ => false, 0⟩
theorem stTo_succ (Z : List Int) (k : Nat) : { stTo Z k with reg := upd (stTo Z k).reg k (zAt Z k) } = stTo Z (k + 1) := by
  simp only [stTo, St.mk.injEq, and_true]
  funext j
  simp only [upd]
  by_cases e : j = k
  · subst e; simp
  · rw [if_neg e]
    by_cases h : j < k
    · rw [if_pos h, if_pos (by omega)]
    · rw [if_neg h, if_neg (by omega)]
theorem stTo_all (Z : List Int) : stTo Z Z.length = st0 Z := by
  simp only [stTo, st0, St.mk.injEq, and_true]
  funext j
  by_cases h : j < Z.length
  · rw [if_pos h]
  · rw [if_neg h, zAt, List.getD_eq_getElem?_getD, List.getElem?_eq_none (by omega)]; rfl

theorem mach_new (w : World) (Z : List Int) : MachAt (w.alloc (.cells #[.int .i64 0, .int .i64 0, .int .i64 0, .int .i64 0, .int .i64 0, .int .i64 0, .int .i64 0, .int .i64 0, .bool false, .bool false, .bool false, .bool false, .bool false, .bool false, .bool false, .bool false, .int .u64 0] 96)) w.heap.size (stTo Z 0) :=
  ⟨rfl, .inr ⟨_, 1, _, rfl, Nat.le_refl _, blk_new _ _, Nat.le_refl _, by simp [maxLen], rfl, rfl⟩⟩

set_option maxRecDepth 100000 in
set_option maxHeartbeats 2000000 in
theorem Fill_any (s : ByteArray) (vz : Value) (Z : List Int) (sz : Int) (w : World) (hz : IntsAt w vz Z) (hzl : Z.length * 8 ≤ 140737488351232) :
    Calls Try.prog 28 #[.string s, vz, .int .i64 sz] w fun e w' => e = .returned (.tuple #[.string (fillOut s Z sz).1, .int .i64 (fillOut s Z sz).2.1, .int .i64 (fillOut s Z sz).2.2]) ∧ Below w.heap.size w w' := by
  have HZ := hide hz
  obtain ⟨za, zcap, rfl, hz1, hz2, hz3⟩ := hz
  have HZ2 := hide hz2
  have HZ3 := hide hz3
  clear hz2 hz3
  go_enter Try.func28, Try.ntmps28
  go_wp2_with fail
  refine (soundCode_any s _).mono ?_
  rintro e w1 ⟨⟨pa, pn, pcap, rfl, hin⟩, hb1⟩
  have HB1 := hide hb1
  clear hb1
  by_cases hve : vE s ≠ 0
  · have HO := hide (pk_eta _ (show fillOut s Z sz = (noBytes, vE s, vP s) by rw [fillOut, if_pos hve]))
    have hve2 : (vE s != 0) = true := by simpa using hve
    clear hve
    go_wp2
    go_ret3
    exact ⟨by rw [(unhide HO).1, (unhide HO).2.1, (unhide HO).2.2]; rfl, unhide HB1⟩
  have hve : vE s = 0 := by omega
  have HIN := hide (hin hve)
  have HVE := hide hve
  have hve2 : (vE s != 0) = false := by rw [hve]; rfl
  clear hin hve
  by_cases hs0 : sz < 0
  · have HO := hide (pk_eta _ (show fillOut s Z sz = (noBytes, 10, 0) by rw [fillOut, if_neg (by rw [unhide HVE]; simp), if_pos (.inl hs0)]))
    go_wp2
    go_ret3
    exact ⟨by rw [(unhide HO).1, (unhide HO).2.1, (unhide HO).2.2]; rfl, unhide HB1⟩
  by_cases hs8 : 8 < sz
  · have HO := hide (pk_eta _ (show fillOut s Z sz = (noBytes, 10, 0) by rw [fillOut, if_neg (by rw [unhide HVE]; simp), if_pos (.inr hs8)]))
    go_wp2
    go_ret3
    exact ⟨by rw [(unhide HO).1, (unhide HO).2.1, (unhide HO).2.2]; rfl, unhide HB1⟩
  by_cases hl8 : 8 < Z.length
  · have HO := hide (pk_eta _ (show fillOut s Z sz = (noBytes, 8, 0) by rw [fillOut, if_neg (by rw [unhide HVE]; simp), if_neg (by omega), if_pos hl8]))
    have hl8' : (8 : Int) < (Z.length : Int) := by omega
    go_wp2
    go_ret3
    exact ⟨by rw [(unhide HO).1, (unhide HO).2.1, (unhide HO).2.2]; rfl, unhide HB1⟩
  have HO := hide (show fillOut s Z sz = if (runL (codeL s) (st0 Z)).2.1 ≠ 0 then (noBytes, (runL (codeL s) (st0 Z)).2.1, (runL (codeL s) (st0 Z)).2.2) else (payB (runL (codeL s) (st0 Z)).1.N sz.toNat, 0, 0) by rw [fillOut, if_neg (by rw [unhide HVE]; simp), if_neg (by omega), if_neg hl8])
  have hl8' : (Z.length : Int) ≤ 8 := by omega
  obtain ⟨R, HR⟩ : ∃ R, Hid (R = runL (codeL s) (st0 Z)) := ⟨_, hide rfl⟩
  rw [← unhide HR] at HO
  go_wp2
  go_loopw [13] (fun i wr => ∃ k : Nat, k ≤ Z.length ∧ i = .int .i64 k ∧ MachAt wr w1.heap.size (stTo Z k) ∧ Below w1.heap.size w1 wr) (fun i _ => Z.length - (intOf i).toNat)
  case atStart => exact ⟨0, by omega, rfl, mach_new w1 Z, (Below.refl _ _).alloc (Nat.le_refl _) _⟩
  case round =>
    obtain ⟨k, hk, rfl, hm, hb⟩ := hrel
    have HM := hide hm
    have HB := hide hb
    clear hm hb
    by_cases hlt : k < Z.length
    · cases za with
      | none => have := unhide HZ2 rfl; omega
      | some xa =>
        have hzc := ints_cell (unhide HZ3 xa rfl) ((unhide HB1).trans ((unhide HB).mono (unhide HB1).size)) hlt
        have hrc := (unhide HM).reg (show k < 8 by omega)
        have hfr := (unhide HM).free k
        have hi0 : (0 : Int) ≤ (k : Int) := by omega
        have hi1 : (k : Int) < (Z.length : Int) := by omega
        have hi2 : (k : Int) < 8 := by omega
        go_wp2
        go_roundw
        case rel => exact ⟨k + 1, by omega, by go_num, by rw [← stTo_succ]; exact (unhide HM).setReg (by omega) _, (unhide HB).setCell (Nat.le_refl _) _⟩
        case measure => simp [intOf]; omega
    · have hkz : k = Z.length := by omega
      rw [hkz, stTo_all] at HM
      clear hkz
      go_wp2_with fail
      refine (run_any w1.heap.size _ (codeL s) (st0 Z) w1 _ (unhide HIN) (Nat.le_refl _) (unhide HB) (unhide HM) (by simp [st0]) (code_fine (unhide HVE)).1 (code_fine (unhide HVE)).2).mono ?_
      rintro e w2 ⟨rfl, hm2, _, hb2⟩
      rw [← unhide HR] at hm2 ⊢
      have HM2 := hide hm2
      have HB2 := hide ((unhide HB1).trans (((unhide HB).trans hb2).mono (unhide HB1).size))
      clear hm2 hb2
      by_cases hre : R.2.1 ≠ 0
      · have HP := hide (pk_eta _ (show fillOut s Z sz = (noBytes, R.2.1, R.2.2) by rw [unhide HO, if_pos hre]))
        have hre2 : (R.2.1 != 0) = true := by simpa using hre
        clear hre
        go_wp2
        go_ret3
        exact ⟨by rw [(unhide HP).1, (unhide HP).2.1, (unhide HP).2.2]; rfl, unhide HB2⟩
      · have HP := hide (pk_eta _ (show fillOut s Z sz = (payB R.1.N sz.toNat, 0, 0) by rw [unhide HO, if_neg hre]))
        have hre2 : (R.2.1 != 0) = false := by simpa using hre
        have hnc := (unhide HM2).bits
        obtain ⟨q, hq⟩ : ∃ q : Nat, sz = q := ⟨sz.toNat, by omega⟩
        have HQ := hide hq
        clear hre hq
        go_wp2_with fail
        rw [unhide HQ]
        refine (payloadText_any R.1.N q _ (by have := unhide HQ; omega)).mono ?_
        rintro e w3 ⟨rfl, hb3⟩
        have HB3 := hide ((unhide HB2).trans (hb3.mono (unhide HB2).size))
        clear hb3 hnc
        go_wp2
        go_ret3
        refine ⟨?_, unhide HB3⟩
        rw [(unhide HP).1, (unhide HP).2.1, (unhide HP).2.2, unhide HQ, Int.toNat_natCast]; rfl

end Go.Proofs.Ytoihlnjcgopdlab

namespace Go.Proofs.Ytoihlnjcgopdlab
open Go.RowKit

set_option maxRecDepth 100000 in
set_option maxHeartbeats 1000000 in
theorem Kept_any (s id code : ByteArray) (v : Value) (Z : List Int) (size : Int) (w : World) (hs : s.size ≤ maxLen) (hid : id.size ≤ maxLen) (hz : IntsAt w v Z) (hr : Z.length * 8 ≤ 140737488351232) :
    Calls Try.prog 10 #[.string s, .string id, .string code, v, .int .i64 size] w fun e w' => e = .returned (.bool true) ∧ Below w.heap.size w w' := by
  have HZ := hide hz
  obtain ⟨za, zcap, rfl, hz1, hz2, hz3⟩ := hz
  clear hz2 hz3
  go_enter Try.func10, Try.ntmps10
  go_wp2_with fail
  refine (copied_any _ Z _ (unhide HZ) hr).mono ?_
  rintro e w1 ⟨u, rfl, hu, hb1⟩
  have HU := hide hu
  have HB1 := hide hb1
  obtain ⟨ua, ucap, rfl, hu1, hu2, hu3⟩ := hu
  clear hu2 hu3 hb1
  go_wp2_with fail
  refine (Pack_any s id _ Z _ hs hid (unhide HU)).mono ?_
  rintro e w2 ⟨rfl, hb2⟩
  have HB2 := hide hb2
  clear hb2
  go_wp2_with fail
  refine (Send_any s id _ Z _ hs hid ((unhide HU).below (unhide HB2))).mono ?_
  rintro e w2s ⟨rfl, hb2s⟩
  have HB2s := hide ((unhide HB2).trans (hb2s.mono (unhide HB2).size))
  clear hb2s
  go_wp2_with fail
  refine (Fill_any code _ Z size _ ((unhide HU).below (unhide HB2s)) hr).mono ?_
  rintro e w2f ⟨rfl, hb2f⟩
  have HB2f := hide ((unhide HB2s).trans (hb2f.mono (unhide HB2s).size))
  clear hb2f
  go_wp2_with fail
  refine (Same_any _ _ Z _ ((unhide HU).below (unhide HB2f)) ((unhide HZ).below ((unhide HB1).trans ((unhide HB2f).mono (unhide HB1).size))) hr).mono ?_
  rintro e w3 ⟨rfl, hb3⟩
  have HB3 := hide ((unhide HB2f).trans (hb3.mono (unhide HB2f).size))
  clear hb3
  go_wp2_with fail
  refine (Pack_any s id _ Z _ hs hid ((unhide HU).below (unhide HB3))).mono ?_
  rintro e w4 ⟨rfl, hb4⟩
  have HB4 := hide ((unhide HB3).trans (hb4.mono (unhide HB3).size))
  clear hb4
  go_wp2_with fail
  refine (Send_any s id _ Z _ hs hid ((unhide HU).below (unhide HB4))).mono ?_
  rintro e w4s ⟨rfl, hb4s⟩
  have HB4s := hide ((unhide HB4).trans (hb4s.mono (unhide HB4).size))
  clear hb4s
  go_wp2_with fail
  refine (Fill_any code _ Z size _ ((unhide HU).below (unhide HB4s)) hr).mono ?_
  rintro e w4f ⟨rfl, hb4f⟩
  have HB4f := hide ((unhide HB4s).trans (hb4f.mono (unhide HB4s).size))
  clear hb4f
  go_wp2_with fail
  refine (rPack_any s id _ Z _ hs ((unhide HZ).below ((unhide HB1).trans ((unhide HB4f).mono (unhide HB1).size)))).mono ?_
  rintro e w5 ⟨rfl, hb5⟩
  have HB5 := hide ((unhide HB1).trans (((unhide HB4f).trans (hb5.mono (unhide HB4f).size)).mono (unhide HB1).size))
  clear hb5
  generalize (fillOut code Z size).1 = y1
  generalize (fillOut code Z size).2.1 = y2
  generalize (fillOut code Z size).2.2 = y3
  generalize (sndOut s id Z).1 = z1
  generalize (sndOut s id Z).2.1 = z2
  generalize (sndOut s id Z).2.2 = z3
  generalize (pk s id Z).1 = x1
  generalize (pk s id Z).2.1 = x2
  generalize (pk s id Z).2.2 = x3
  go_wp2_with (go_at_call 13; refine (num_any _ _).mono ?_; rintro e w' ⟨rfl, rfl⟩)
  go_ret
  exact ⟨rfl, unhide HB5⟩

end Go.Proofs.Ytoihlnjcgopdlab
