import Derived.Test.YtljodhcfimklkaaZ4
import Derived.Test.YtljodhcfimklkaaW4
import Derived.Test.YtljodhcfimklkaaZ2
namespace Go.Proofs.Ytljodhcfimklkaa
open Go.RowKit

set_option maxRecDepth 100000 in
set_option maxHeartbeats 1000000 in
theorem rOwned_any (id p : ByteArray) (pl : Int) (v : Value) (L : List Sg) (w : World) (h : RSigsAt w v L) (hg : Good L) (h8 : p.size ≤ 8) (hwi : Within L p.size) :
    Calls Try.prog 27 #[.agg #[.string id, .int .i64 p.size, v, .int .i64 pl], .string p] w
      fun e w' => e = .returned (.string (payB (bitsTo L (valsL L (payTo p p.size) (choiceN L (payTo p p.size)) L.length) (choiceN L (payTo p p.size)) L.length) p.size)) ∧ Below w.heap.size w w' := by
  obtain ⟨i0, hinf, hz0, hzz1, hzz2⟩ := info_parts Try.infoU8
  have HINF := hide hinf
  have HZ0 := hide hz0
  have HZ1 := hide hzz1
  have HZB := hide hzz2
  clear hinf hz0 hzz1 hzz2
  have hl := hg.1
  have HG := hide hg
  have HWI := hide hwi
  have HSV := hide h
  obtain ⟨va, vcap, rfl⟩ := ownsRow_form h
  clear hg hwi h
  have hbox := fun (wx : World) (h : Below (w.heap.size + 1) (w.alloc (.cells #[.string id, .int .i64 p.size, .slice va L.length vcap, .int .i64 pl] 45)) wx) => box_cell h
  go_enter Try.func27, Try.ntmps27
  go_wp2_with fail
  refine (rUnpacked_any id p p.size pl _ L _ (ownsRow_below (unhide HSV) ((Below.refl _ _).alloc (Nat.le_refl _) _)) (unhide HG) h8 (unhide HWI)).mono ?_
  rintro e w1 ⟨u, rfl, hu, hb1⟩
  have HB1 : Hid (Below (w.heap.size + 1) (w.alloc (.cells #[.string id, .int .i64 p.size, .slice va L.length vcap, .int .i64 pl] 45)) w1) := hide (hb1.mono (by simp))
  obtain ⟨ua, ucap, rfl, _, _, _⟩ := hu
  have hbw1 := hbox _ (unhide HB1)
  clear hb1
  obtain ⟨N, HNN⟩ : ∃ N, Hid (N = payTo p p.size) := ⟨_, hide rfl⟩
  rw [← unhide HNN]
  obtain ⟨c, HCC⟩ : ∃ c, Hid (c = choiceN L N) := ⟨_, hide rfl⟩
  rw [← unhide HCC]
  obtain ⟨V, HVV⟩ : ∃ V, Hid (V = valsL L N c L.length) := ⟨_, hide rfl⟩
  rw [← unhide HVV]
  obtain ⟨T, HTT⟩ : ∃ T, Hid (T = strOfNums (signsL L c L.length)) := ⟨_, hide rfl⟩
  rw [← unhide HTT]
  have htl : T.size = L.length := by rw [unhide HTT, strOfNums_size]; simp [signsL]
  have hle3 : L.length ≤ T.size := by omega
  clear htl
  have HTA : Hid (∀ j, j < L.length → ∀ h : j < T.size, (T[j].toNat : Int) = signN L c j) := hide (by
    intro j hj h
    have e := unhide HTT
    subst e
    exact signs_at L c h)
  go_wp2_with (at_make; refine wpList_make_full _ rfl _ _ 38 rfl (w.heap.size + 1) 5 i0 (.int .u8 0) 1 Try.underlying38 (unhide HINF) (unhide HZ0) (unhide HZ1) .i64 .i64 (p.size : Int) (p.size : Int) p.size rfl rfl rfl rfl (by rw [unhide HZB]; omega) (by unfold maxLen; omega) (by have := (unhide HB1).size; simp at this; omega) ?_)
  intro w3 hown hgrow
  have HB3 := hide (Below.grown (unhide HB1) hgrow (by have := (unhide HB1).size; simp at this; omega) (by simp))
  obtain ⟨wo, HWO⟩ : ∃ wo : World, Hid (wo = w1) := ⟨_, hide rfl⟩
  rw [← unhide HWO] at hown
  rw [← unhide HWO]
  have HROW : Hid (w3.ownsRow (w.heap.size + 1) 5 1 (.slice (some ⟨wo.heap.size, 0, none⟩) p.size p.size) p.size ((bytesL (bitsTo L V c 0) p.size).map (Value.int .u8))) := hide (by rw [toList_madeCells_one] at hown; rw [bytesL_zero]; exact hown)
  clear hown hgrow hbw1
  have hbw := hbox _ (unhide HB3)
  go_wp2
  clear hbw
  go_loopw [8, 9, 10] (fun i _ _ wr => ∃ k : Nat, k ≤ L.length ∧ i = .int .i64 k ∧ wr.ownsRow (w.heap.size + 1) 5 1 (.slice (some ⟨wo.heap.size, 0, none⟩) p.size p.size) p.size ((bytesL (bitsTo L V c k) p.size).map (Value.int .u8)) ∧ Below (w.heap.size + 1) (w.alloc (.cells #[.string id, .int .i64 p.size, .slice va L.length vcap, .int .i64 pl] 45)) wr) (fun i _ _ _ => L.length - (intOf i).toNat)
  case atStart => exact ⟨0, by omega, rfl, unhide HROW, unhide HB3⟩
  case round =>
    obtain ⟨k, hk, rfl, hrow, hb⟩ := hrel
    have HR := hide hrow
    have HBk := hide hb
    have hbw := hbox _ hb
    clear hrow hb
    by_cases hlt : k < L.length
    · obtain ⟨ok, r0, r1⟩ := (unhide HG).2 k hlt
      have OK := hide ok
      have hi0 : (0 : Int) ≤ (k : Int) := by omega
      have hi1 : (k : Int) < (L.length : Int) := by omega
      have hi4 : (k : Int) < (T.size : Int) := by omega
      have hi5 : k < T.size := by omega
      clear ok
      rcases (unhide HSV).opened with ⟨hnil, _⟩ | ⟨g2, cap2, hv2, hg2, hcap2, hcm2, hc2⟩
      · rw [hnil] at hlt; simp at hlt
      cases hv2
      have HC2 := hide hc2
      clear hc2
      have cn := fun (wx : World) (h : Below (w.heap.size + 1) (w.alloc (.cells #[.string id, .int .i64 p.size, .slice (some ⟨g2, 0, none⟩) L.length vcap, .int .i64 pl] 45)) wx) => rcells7 (k := k) (unhide HC2) hg2 (box_below h) hlt
      have htk := unhide HTA k hlt hi5
      have hl0 := (unhide OK).ln0
      have hl1 := (unhide OK).ln1
      cases hac : activeB (sgAt L k).rl c with
      | false =>
        have HAC := hide hac
        have hte : ((T[k].toNat : Int) == 43) = false := by rw [htk, signN, hac]; rfl
        clear htk hac cn
        go_wp2
        refine wp_loop_rounds 1 ?_
        rw [rounds_succ]
        go_wp2
        go_roundw
        case rel => exact ⟨k + 1, by omega, by go_num, by rw [bits_stay (unhide HAC)]; exact unhide HR, unhide HBk⟩
        case measure => simp [intOf]; omega
      | true =>
        have HAC := hide hac
        have hte : ((T[k].toNat : Int) == 43) = true := by rw [htk, signN, hac]; rfl
        have HZV : Hid (zAt V k = heldV (sgAt L k).st (sgAt L k).ln (sgAt L k).od (sgAt L k).kd N) := hide (by rw [unhide HVV, zAt_vals L N c hlt, valN, hac]; rfl)
        clear htk hac
        go_wp2
        clear hbw
        go_loopw [9, 10] (fun i _ wr => ∃ j : Nat, (j : Int) ≤ (sgAt L k).ln ∧ i = .int .i64 j ∧ wr.ownsRow (w.heap.size + 1) 5 1 (.slice (some ⟨wo.heap.size, 0, none⟩) p.size p.size) p.size ((bytesL (bitsTo L V c k ||| layTo (sgAt L k).st (sgAt L k).ln (sgAt L k).od (zAt V k) j) p.size).map (Value.int .u8)) ∧ Below (w.heap.size + 1) (w.alloc (.cells #[.string id, .int .i64 p.size, .slice (some ⟨g2, 0, none⟩) L.length vcap, .int .i64 pl] 45)) wr) (fun i _ _ => ((sgAt L k).ln - intOf i).toNat)
        case atStart => exact ⟨0, by omega, rfl, by simpa [layTo] using unhide HR, unhide HBk⟩
        case round =>
          obtain ⟨j, hj, rfl, hrow, hb5⟩ := hrel
          have cnw := cn _ hb5
          have hbw := hbox _ hb5
          have HR5 := hide hrow
          have HB5 := hide hb5
          clear hrow hb5
          by_cases hjl : (j : Int) < (sgAt L k).ln
          · go_wp2_with fail
            refine (rBit_any _ (sgAt L k).st (sgAt L k).ln _ _ j (sgAt L k).od (sgAt L k).kd _ (unhide OK).st0 (unhide OK).st1 (unhide OK).ln0 (unhide OK).ln1 (unhide OK).od (by omega) hjl).mono ?_
            rintro e w6 ⟨rfl, hb6⟩
            have hp0 := place_lo (sgAt L k).st (sgAt L k).ln (sgAt L k).od j (unhide OK).st0 (by omega) hjl
            have hp1 := unhide HWI k hlt j hjl
            obtain ⟨q, hq⟩ : ∃ q : Nat, place (sgAt L k).st (sgAt L k).ln (sgAt L k).od j = (q : Int) := ⟨(place (sgAt L k).st (sgAt L k).ln (sgAt L k).od j).toNat, (Int.toNat_of_nonneg hp0).symm⟩
            have hqn : (place (sgAt L k).st (sgAt L k).ln (sgAt L k).od j).toNat = q := by omega
            have hq8 : q < 8 * p.size := by omega
            have HQ := hide hq
            have HB6 := hide (box_next (unhide HB5) hb6)
            have HR6 := hide (ownsRow_bel (unhide HR5) hb6)
            have hbv : bitv (zAt V k) j = bitN N q := by rw [unhide HZV, held_bit hl0 hl1 hjl, hqn]
            have hlo : bitv (zAt V k) j = 1 → layTo (sgAt L k).st (sgAt L k).ln (sgAt L k).od (zAt V k) (j + 1) = layTo (sgAt L k).st (sgAt L k).ln (sgAt L k).od (zAt V k) j ||| 2 ^ q := fun h => by rw [layTo_one h, hqn]
            have HLO := hide hlo
            have HBV := hide hbv
            rw [hq]
            clear hb6 cnw hbw hqn hq hp0 hp1 hbv hlo
            go_wp2_with fail
            refine (rGet_any p q _ h8 hq8).mono ?_
            rintro e w7 ⟨rfl, hw7⟩
            subst hw7
            rw [← unhide HNN]
            have hbl := bitN_lt N q
            by_cases hb1 : bitN N q = 1
            · have HLAY := hide (unhide HLO (by rw [unhide HBV]; exact hb1))
              rw [hb1]
              clear hbl hb1
              go_wp2_with fail
              refine (rPut_any (w.heap.size + 1) _ _ p.size _ q _ (unhide HR6) hq8 (by omega)).mono ?_
              rintro e w8 ⟨rfl, hrow8, hgr8⟩
              have HB8 := hide (Below.grown (unhide HB6) hgr8 (by have := (unhide HB6).size; simp at this; omega) (fun q hq => by cases hq; exact ((unhide HR6).lt _ rfl).1))
              have HR8 := hide hrow8
              clear hrow8 hgr8
              go_wp2
              go_roundw
              case rel =>
                refine ⟨j + 1, by omega, by go_num, ?_, unhide HB8⟩
                rw [unhide HLAY, ← Nat.or_assoc]
                exact unhide HR8
              case measure => simp [intOf]; omega
            · have HLAY := hide (layTo_zero (st := (sgAt L k).st) (ln := (sgAt L k).ln) (od := (sgAt L k).od) (show bitv (zAt V k) j = 0 by rw [unhide HBV]; omega))
              rw [show bitN N q = 0 by omega]
              clear hbl hb1
              go_wp2
              go_roundw
              case rel =>
                refine ⟨j + 1, by omega, by go_num, ?_, unhide HB6⟩
                rw [unhide HLAY]
                exact unhide HR6
              case measure => simp [intOf]; omega
          · have hjn : (sgAt L k).ln.toNat = j := by omega
            have HJ := hide hjn
            clear hjn
            go_wp2
            go_roundw
            case rel =>
              refine ⟨k + 1, by omega, by go_num, ?_, unhide HB5⟩
              have h7 := unhide HR5
              have e7 : bitsTo L V c (k + 1) = bitsTo L V c k ||| layTo (sgAt L k).st (sgAt L k).ln (sgAt L k).od (zAt V k) j := by
                rw [bitsTo, if_pos (unhide HAC), unhide HJ]; rfl
              rw [e7]
              exact h7
            case measure => simp [intOf]; omega
    · have hkn : k = L.length := by omega
      have hconv := conv_row (unhide HR)
      have HK := hide hkn
      have hfin : payB (bitsTo L (valsL L (payTo p p.size) (choiceN L (payTo p p.size)) L.length) (choiceN L (payTo p p.size)) L.length) p.size = strOfNums (bytesL (bitsTo L V c k) p.size) := by
        rw [payB, unhide HK, unhide HVV, unhide HCC, unhide HNN]
      have HFIN := hide hfin
      clear hkn hfin
      go_wp2
      go_ret
      exact ⟨by rw [unhide HFIN]; rfl, box_below (unhide HBk)⟩

end Go.Proofs.Ytljodhcfimklkaa
