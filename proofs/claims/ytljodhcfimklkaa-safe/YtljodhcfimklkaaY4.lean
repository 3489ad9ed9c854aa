import Derived.Test.YtljodhcfimklkaaY3
namespace Go.Proofs.Ytljodhcfimklkaa
open Go.RowKit

theorem str_push (xs : List Int) (c : Int) : strOfNums (xs ++ [c]) = strOfNums xs ++ ⟨#[UInt8.ofNat c.toNat]⟩ := by
  apply ByteArray.ext
  simp [strOfNums]

theorem vals_stay (L : List Sg) (N : Nat) (c : Int) (k : Nat) (hk : k < L.length) (h : valN L N c k = 0) :
    (valsL L N c (k + 1)).map (Value.int .i64) ++ List.replicate (L.length - (k + 1)) (.int .i64 0) = (valsL L N c k).map (Value.int .i64) ++ List.replicate (L.length - k) (.int .i64 0) := by
  obtain ⟨n, hn⟩ : ∃ n, L.length - k = n + 1 := ⟨L.length - k - 1, by omega⟩
  rw [hn, show L.length - (k + 1) = n by omega, valsL_succ, h, List.replicate_succ]
  simp
theorem vals_set (L : List Sg) (N : Nat) (c : Int) (k : Nat) (hk : k < L.length) :
    ((valsL L N c k).map (Value.int .i64) ++ List.replicate (L.length - k) (Value.int .i64 0)).set k (Value.int .i64 (valN L N c k)) = (valsL L N c (k + 1)).map (Value.int .i64) ++ List.replicate (L.length - (k + 1)) (Value.int .i64 0) := by
  have h1 : ((valsL L N c k).map (Value.int .i64)).length = k := by simp [valsL]
  obtain ⟨n, hn⟩ : ∃ n, L.length - k = n + 1 := ⟨L.length - k - 1, by omega⟩
  rw [List.set_append_right _ _ (by omega), h1, Nat.sub_self, hn, show L.length - (k + 1) = n by omega, valsL_succ, List.replicate_succ, List.set_cons_zero]
  simp

set_option maxRecDepth 100000 in
set_option maxHeartbeats 4000000 in
theorem rUnpacked_any (id p : ByteArray) (sz pl : Int) (v : Value) (L : List Sg) (w : World) (h : RSigsAt w v L) (hg : Good L) (h8 : p.size ≤ 8) (hwi : Within L p.size) :
    Calls Try.prog 50 #[.agg #[.string id, .int .i64 sz, v, .int .i64 pl], .string p] w fun e w' => ∃ u, e = .returned (.tuple #[u, .string (strOfNums (signsL L (choiceN L (payTo p p.size)) L.length))]) ∧ IntsAt w' u (valsL L (payTo p p.size) (choiceN L (payTo p p.size)) L.length) ∧ Below w.heap.size w w' := by
  obtain ⟨j0, jinf, jz0, jz1, jz2⟩ := info_parts Try.infoInt
  have JINF := hide jinf
  have JZ0 := hide jz0
  have JZ1 := hide jz1
  have JZ2 := hide jz2
  clear jinf jz0 jz1 jz2
  have hl := hg.1
  have HG := hide hg
  have HWI := hide hwi
  have HSV := hide h
  obtain ⟨va, vcap, rfl⟩ := ownsRow_form h
  obtain ⟨N, HNN⟩ : ∃ N, Hid (N = payTo p p.size) := ⟨_, hide rfl⟩
  rw [← unhide HNN]
  clear hg hwi h
  have hbox := fun (wx : World) (h : Below (w.heap.size + 1) (w.alloc (.cells #[.string id, .int .i64 sz, .slice va L.length vcap, .int .i64 pl] 45)) wx) => box_cell h
  go_enter Try.func50, Try.ntmps50
  go_wp2_with fail
  refine (rMux_any id sz pl _ L _ (ownsRow_below (unhide HSV) ((Below.refl _ _).alloc (Nat.le_refl _) _)) hl).mono ?_
  rintro e w1 ⟨rfl, hb1⟩
  have HB1 : Hid (Below (w.heap.size + 1) (w.alloc (.cells #[.string id, .int .i64 sz, .slice va L.length vcap, .int .i64 pl] 45)) w1) := hide (hb1.mono (by simp))
  have hbw1 := hbox _ (unhide HB1)
  clear hb1
  rcases mux_range L with hmx | ⟨x, hx, hmx, _⟩
  · have HCH := hide (show choiceN L N = 0 by rw [choiceN, hmx]; rfl)
    rw [hmx]
    clear hmx
    go_wp2_with (at_make; refine wpList_make_full _ rfl _ _ 29 rfl (w.heap.size + 1) 3 j0 (.int .i64 0) 1 Try.underlying29 (unhide JINF) (unhide JZ0) (unhide JZ1) .i64 .i64 (L.length : Int) (L.length : Int) L.length rfl rfl rfl rfl (by rw [unhide JZ2]; omega) (by unfold maxLen; omega) (by have := (unhide HB1).size; simp at this; omega) ?_)
    intro w2 hown hgrow
    have HB2 := hide (Below.grown (unhide HB1) hgrow (by have := (unhide HB1).size; simp at this; omega) (by simp))
    obtain ⟨wo, HWO⟩ : ∃ wo : World, Hid (wo = w1) := ⟨_, hide rfl⟩
    rw [← unhide HWO] at hown
    rw [← unhide HWO]
    have HROW : Hid (w2.ownsRow (w.heap.size + 1) 3 1 (.slice (some ⟨wo.heap.size, 0, none⟩) L.length L.length) L.length ((valsL L N 0 0).map (Value.int .i64) ++ List.replicate (L.length - 0) (.int .i64 0))) := hide (by rw [toList_madeCells_one] at hown; simpa [valsL] using hown)
    clear hown hgrow
    have hbw := hbox _ (unhide HB2)
    go_wp2
    clear hbw
    go_loopw [9, 10, 11] (fun t i _ wr => ∃ k : Nat, k ≤ L.length ∧ i = .int .i64 k ∧ t = .string (strOfNums (signsL L 0 k)) ∧ wr.ownsRow (w.heap.size + 1) 3 1 (.slice (some ⟨wo.heap.size, 0, none⟩) L.length L.length) L.length ((valsL L N 0 k).map (Value.int .i64) ++ List.replicate (L.length - k) (.int .i64 0)) ∧ Below (w.heap.size + 1) (w.alloc (.cells #[.string id, .int .i64 sz, .slice va L.length vcap, .int .i64 pl] 45)) wr) (fun _ i _ _ => L.length - (intOf i).toNat)
    case atStart => exact ⟨0, by omega, rfl, rfl, unhide HROW, unhide HB2⟩
    case round =>
      obtain ⟨k, hk, rfl, rfl, hrow, hb⟩ := hrel
      have HR := hide hrow
      have HB := hide hb
      have hbw := hbox _ hb
      clear hrow hb
      by_cases hlt : k < L.length
      · obtain ⟨ok, r0, r1⟩ := (unhide HG).2 k hlt
        have OK := hide ok
        have hi0 : (0 : Int) ≤ (k : Int) := by omega
        have hi1 : (k : Int) < (L.length : Int) := by omega
        have hsz : (strOfNums (signsL L 0 k)).size ≤ 8 := by rw [strOfNums_size]; simp [signsL]; omega
        clear ok
        go_wp2_with fail
        refine (rActive_any id sz pl _ L k 0 _ (ownsRow_below (unhide HSV) (box_below (unhide HB))) hl hlt r0 r1).mono ?_
        rintro e w3 ⟨rfl, hb3⟩
        have HB3 := hide (box_next (unhide HB) hb3)
        have HR3 := hide (ownsRow_bel (unhide HR) hb3)
        clear hb3 hbw
        cases hac : activeB (sgAt L k).rl 0 with
        | false =>
          have HVAL := hide (show valN L N 0 k = 0 by rw [valN, hac]; rfl)
          have HSGN := hide (show signN L 0 k = 45 by rw [signN, hac]; rfl)
          go_wp2
          go_roundw
          case rel =>
            refine ⟨k + 1, by omega, by go_num, ?_, ?_, unhide HB3⟩
            · rw [signsL_succ, unhide HSGN, str_push]; rfl
            · rw [vals_stay L N 0 k hlt (unhide HVAL)]; exact unhide HR3
          case measure => simp [intOf]; omega
        | true =>
          have HVAL := hide (show valN L N 0 k = heldV (sgAt L k).st (sgAt L k).ln (sgAt L k).od (sgAt L k).kd N by rw [valN, hac]; rfl)
          have HSGN := hide (show signN L 0 k = 43 by rw [signN, hac]; rfl)
          rcases (unhide HSV).opened with ⟨hnil, _⟩ | ⟨g2, cap2, hv2, hg2, hcap2, hcm2, hc2⟩
          · rw [hnil] at hlt; simp at hlt
          cases hv2
          have cw := rcells7 hc2 hg2 (box_below (unhide HB3)) hlt
          have hbw := hbox _ (unhide HB3)
          clear hc2
          go_wp2_with fail
          refine (rHolds_any _ (sgAt L k).st (sgAt L k).ln (sgAt L k).od (sgAt L k).kd _ _ p _ (unhide OK).st0 (unhide OK).st1 (unhide OK).ln0 (unhide OK).ln1 (unhide OK).od h8 (fun i hi => unhide HWI k hlt i hi)).mono ?_
          rintro e w4 ⟨rfl, hb4⟩
          have HB4 := hide (box_next (unhide HB3) hb4)
          have HR4 := hide (ownsRow_bel (unhide HR3) hb4)
          clear hb4 cw hbw
          rw [← unhide HNN]
          have hoc := (unhide HR4).cellAt k (by omega)
          have hof := (unhide HR4).frozenAt k
          have hst := (unhide HR4).stored k (.int .i64 (valN L N 0 k))
          rw [vals_set L N 0 k hlt] at hst
          have HST := hide hst
          have hgeb := ((unhide HR4).lt _ rfl).1
          obtain ⟨ov, hov⟩ : ∃ ov, w4.cell? ⟨wo.heap.size, k, none⟩ = some ov := ⟨_, hoc.trans (List.getElem?_eq_getElem (by simp [valsL]; omega))⟩
          rw [← unhide HVAL]
          clear hst hoc
          go_wp2
          go_roundw
          case rel =>
            refine ⟨k + 1, by omega, by go_num, ?_, (unhide HST).1, (unhide HB4).setCell hgeb _⟩
            rw [signsL_succ, unhide HSGN, str_push]; rfl
          case measure => simp [intOf]; omega
      · have hkn : k = L.length := by omega
        have HK := hide hkn
        clear hkn
        go_wp2
        go_ret2
        refine ⟨.slice (some ⟨wo.heap.size, 0, none⟩) L.length L.length, by rw [unhide HCH, ← unhide HK]; rfl, ?_, box_below (unhide HB)⟩
        rw [unhide HCH]
        have h9 := unhide HR
        rw [unhide HK, Nat.sub_self, List.replicate_zero, List.append_nil] at h9
        refine IntsAt_row (B := w.heap.size + 1) ?_
        rw [valsL_len]
        exact h9
  · have HCH := hide (show choiceN L N = heldV (sgAt L x).st (sgAt L x).ln (sgAt L x).od (sgAt L x).kd N by rw [choiceN, hmx, if_pos (by omega), Int.toNat_natCast]; rfl)
    rw [hmx]
    rcases (unhide HSV).opened with ⟨hnil, _⟩ | ⟨gx, capx, hvx, hgx, hcapx, hcmx, hcx⟩
    · rw [hnil] at hx; simp at hx
    cases hvx
    have okx := ((unhide HG).2 x hx).1
    have OKX := hide okx
    have hj0 : (0 : Int) ≤ (x : Int) := by omega
    have hj1 : (x : Int) < (L.length : Int) := by omega
    have cwx := rcells7 hcx hgx (box_below (unhide HB1)) hx
    clear hmx okx hcx
    go_wp2_with fail
    refine (rHolds_any _ (sgAt L x).st (sgAt L x).ln (sgAt L x).od (sgAt L x).kd _ _ p _ (unhide OKX).st0 (unhide OKX).st1 (unhide OKX).ln0 (unhide OKX).ln1 (unhide OKX).od h8 (fun i hi => unhide HWI x hx i hi)).mono ?_
    rintro e w1b ⟨rfl, hb1b⟩
    rw [← unhide HNN]
    obtain ⟨cc, HCCV⟩ : ∃ cc, Hid (cc = heldV (sgAt L x).st (sgAt L x).ln (sgAt L x).od (sgAt L x).kd N) := ⟨_, hide rfl⟩
    rw [← unhide HCCV] at HCH
    rw [← unhide HCCV]
    have HB1o := HB1
    clear HB1
    have HB1 := hide (box_next (unhide HB1o) hb1b)
    clear hb1b cwx hbw1
    have hbw1 := hbox _ (unhide HB1)
    go_wp2_with (at_make; refine wpList_make_full _ rfl _ _ 29 rfl (w.heap.size + 1) 3 j0 (.int .i64 0) 1 Try.underlying29 (unhide JINF) (unhide JZ0) (unhide JZ1) .i64 .i64 (L.length : Int) (L.length : Int) L.length rfl rfl rfl rfl (by rw [unhide JZ2]; omega) (by unfold maxLen; omega) (by have := (unhide HB1).size; simp at this; omega) ?_)
    intro w2 hown hgrow
    have HB2 := hide (Below.grown (unhide HB1) hgrow (by have := (unhide HB1).size; simp at this; omega) (by simp))
    obtain ⟨wo, HWO⟩ : ∃ wo : World, Hid (wo = w1b) := ⟨_, hide rfl⟩
    rw [← unhide HWO] at hown
    rw [← unhide HWO]
    have HROW : Hid (w2.ownsRow (w.heap.size + 1) 3 1 (.slice (some ⟨wo.heap.size, 0, none⟩) L.length L.length) L.length ((valsL L N cc 0).map (Value.int .i64) ++ List.replicate (L.length - 0) (.int .i64 0))) := hide (by rw [toList_madeCells_one] at hown; simpa [valsL] using hown)
    clear hown hgrow
    have hbw := hbox _ (unhide HB2)
    go_wp2
    clear hbw
    go_loopw [9, 10, 11] (fun t i _ wr => ∃ k : Nat, k ≤ L.length ∧ i = .int .i64 k ∧ t = .string (strOfNums (signsL L cc k)) ∧ wr.ownsRow (w.heap.size + 1) 3 1 (.slice (some ⟨wo.heap.size, 0, none⟩) L.length L.length) L.length ((valsL L N cc k).map (Value.int .i64) ++ List.replicate (L.length - k) (.int .i64 0)) ∧ Below (w.heap.size + 1) (w.alloc (.cells #[.string id, .int .i64 sz, .slice (some ⟨gx, 0, none⟩) L.length vcap, .int .i64 pl] 45)) wr) (fun _ i _ _ => L.length - (intOf i).toNat)
    case atStart => exact ⟨0, by omega, rfl, rfl, unhide HROW, unhide HB2⟩
    case round =>
      obtain ⟨k, hk, rfl, rfl, hrow, hb⟩ := hrel
      have HR := hide hrow
      have HB := hide hb
      have hbw := hbox _ hb
      clear hrow hb
      by_cases hlt : k < L.length
      · obtain ⟨ok, r0, r1⟩ := (unhide HG).2 k hlt
        have OK := hide ok
        have hi0 : (0 : Int) ≤ (k : Int) := by omega
        have hi1 : (k : Int) < (L.length : Int) := by omega
        have hsz : (strOfNums (signsL L cc k)).size ≤ 8 := by rw [strOfNums_size]; simp [signsL]; omega
        clear ok
        go_wp2_with fail
        refine (rActive_any id sz pl _ L k cc _ (ownsRow_below (unhide HSV) (box_below (unhide HB))) hl hlt r0 r1).mono ?_
        rintro e w3 ⟨rfl, hb3⟩
        have HB3 := hide (box_next (unhide HB) hb3)
        have HR3 := hide (ownsRow_bel (unhide HR) hb3)
        clear hb3 hbw
        cases hac : activeB (sgAt L k).rl cc with
        | false =>
          have HVAL := hide (show valN L N cc k = 0 by rw [valN, hac]; rfl)
          have HSGN := hide (show signN L cc k = 45 by rw [signN, hac]; rfl)
          go_wp2
          go_roundw
          case rel =>
            refine ⟨k + 1, by omega, by go_num, ?_, ?_, unhide HB3⟩
            · rw [signsL_succ, unhide HSGN, str_push]; rfl
            · rw [vals_stay L N cc k hlt (unhide HVAL)]; exact unhide HR3
          case measure => simp [intOf]; omega
        | true =>
          have HVAL := hide (show valN L N cc k = heldV (sgAt L k).st (sgAt L k).ln (sgAt L k).od (sgAt L k).kd N by rw [valN, hac]; rfl)
          have HSGN := hide (show signN L cc k = 43 by rw [signN, hac]; rfl)
          rcases (unhide HSV).opened with ⟨hnil, _⟩ | ⟨g2, cap2, hv2, hg2, hcap2, hcm2, hc2⟩
          · rw [hnil] at hlt; simp at hlt
          cases hv2
          have cw := rcells7 hc2 hg2 (box_below (unhide HB3)) hlt
          have hbw := hbox _ (unhide HB3)
          clear hc2
          go_wp2_with fail
          refine (rHolds_any _ (sgAt L k).st (sgAt L k).ln (sgAt L k).od (sgAt L k).kd _ _ p _ (unhide OK).st0 (unhide OK).st1 (unhide OK).ln0 (unhide OK).ln1 (unhide OK).od h8 (fun i hi => unhide HWI k hlt i hi)).mono ?_
          rintro e w4 ⟨rfl, hb4⟩
          have HB4 := hide (box_next (unhide HB3) hb4)
          have HR4 := hide (ownsRow_bel (unhide HR3) hb4)
          clear hb4 cw hbw
          rw [← unhide HNN]
          have hoc := (unhide HR4).cellAt k (by omega)
          have hof := (unhide HR4).frozenAt k
          have hst := (unhide HR4).stored k (.int .i64 (valN L N cc k))
          rw [vals_set L N cc k hlt] at hst
          have HST := hide hst
          have hgeb := ((unhide HR4).lt _ rfl).1
          obtain ⟨ov, hov⟩ : ∃ ov, w4.cell? ⟨wo.heap.size, k, none⟩ = some ov := ⟨_, hoc.trans (List.getElem?_eq_getElem (by simp [valsL]; omega))⟩
          rw [← unhide HVAL]
          clear hst hoc
          go_wp2
          go_roundw
          case rel =>
            refine ⟨k + 1, by omega, by go_num, ?_, (unhide HST).1, (unhide HB4).setCell hgeb _⟩
            rw [signsL_succ, unhide HSGN, str_push]; rfl
          case measure => simp [intOf]; omega
      · have hkn : k = L.length := by omega
        have HK := hide hkn
        clear hkn
        go_wp2
        go_ret2
        refine ⟨.slice (some ⟨wo.heap.size, 0, none⟩) L.length L.length, by rw [unhide HCH, ← unhide HK]; rfl, ?_, box_below (unhide HB)⟩
        rw [unhide HCH]
        have h9 := unhide HR
        rw [unhide HK, Nat.sub_self, List.replicate_zero, List.append_nil] at h9
        refine IntsAt_row (B := w.heap.size + 1) ?_
        rw [valsL_len]
        exact h9

end Go.Proofs.Ytljodhcfimklkaa
