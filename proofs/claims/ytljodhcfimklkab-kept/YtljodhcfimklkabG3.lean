import Derived.Test.YtljodhcfimklkabG2
namespace Go.Proofs.Ytljodhcfimklkab
open Go.RowKit

/-- What is wrong with a signal, E the signals ahead of it, L all signals of the message: an error's number. -/
def errOf (L E : List Sg) (s : Sg) (sz : Int) : Int :=
  if anyIx (fun k => decide ((sgAt E k).nm = s.nm)) E.length then 3
  else if s.rl = 77 ∧ 0 ≤ muxOf E then 4
  else if isDigB s.rl = true ∧ muxOf L < 0 then 4
  else if anyIx (fun k => decide (8 * sz ≤ place s.st s.ln s.od k)) s.ln.toNat then 5
  else if anyIx (fun k => shareB (sgAt E k) s && meetB (sgAt E k).rl s.rl) E.length then 6
  else 0

theorem not_reaches {s : Sg} {sz : Int} (h8 : sz ≤ 8) (h : anyIx (fun k => decide (8 * sz ≤ place s.st s.ln s.od k)) s.ln.toNat = false) : s.Fits := by
  intro i h0 h1
  have hh : ∀ k, k < s.ln.toNat → decide (8 * sz ≤ place s.st s.ln s.od k) = false := by
    intro k hk
    cases e : decide (8 * sz ≤ place s.st s.ln s.od k) with
    | false => rfl
    | true => rw [anyIx_true.2 ⟨k, hk, e⟩] at h; cases h
  have := hh i.toNat (by omega)
  simp only [decide_eq_false_iff_not] at this
  rw [Int.toNat_of_nonneg h0] at this
  omega

/-- Two boxes: what was below stays. -/
theorem sigs_box2 {w wr : World} {o1 o2 : Obj} {v : Value} {L : List Sg} (h : SigsAt w v L) (hb : Below (w.heap.size + 2) ((w.alloc o1).alloc o2) wr) : SigsAt wr v L := ownsRow_below h (box2_below hb)

set_option maxHeartbeats 2000000 in
theorem checkSignal_any (pl id sz : Int) (mv ev : Value) (L E : List Sg) (s : Sg) (w : World) (hL : SigsAt w mv L) (hE : SigsAt w ev E) (hl : L.length ≤ 8) (he : E.length ≤ 8) (hs : s.Ok)
    (hok : ∀ k, k < E.length → (sgAt E k).Ok ∧ (sgAt E k).Fits) (hz0 : 0 ≤ sz) (hz : sz ≤ 8) :
    Calls Try.prog 58 #[.agg #[.int .i64 pl, .int .i64 id, .int .i64 sz, mv], ev, .agg #[.int .i64 s.pl, .int .u8 s.nm, .int .i64 s.st, .int .i64 s.ln, .int .u8 s.od, .int .u8 s.kd, .int .u8 s.rl]] w
      fun e w' => e = .returned (.int .i64 (errOf L E s sz)) ∧ Below w.heap.size w w' := by
  have HL := hide hL
  have HE := hide hE
  have HS := hide hs
  have HOK := hide hok
  clear hL hE hs hok
  have HB : Hid (Below (w.heap.size + 2) ((w.alloc (.cells #[.int .i64 pl, .int .i64 id, .int .i64 sz, mv] 35)).alloc (.cells #[.int .i64 s.pl, .int .u8 s.nm, .int .i64 s.st, .int .i64 s.ln, .int .u8 s.od, .int .u8 s.kd, .int .u8 s.rl] 73)) ((w.alloc (.cells #[.int .i64 pl, .int .i64 id, .int .i64 sz, mv] 35)).alloc (.cells #[.int .i64 s.pl, .int .u8 s.nm, .int .i64 s.st, .int .i64 s.ln, .int .u8 s.od, .int .u8 s.kd, .int .u8 s.rl] 73))) := hide (Below.refl _ _)
  cases q1 : anyIx (fun k => decide ((sgAt E k).nm = s.nm)) E.length with
  | true =>
    have Q := hide (show errOf L E s sz = 3 by rw [errOf, if_pos q1])
    go_enter Try.func58, Try.ntmps58
    go_wp2_with fail
    refine (hasName_any ev E s.nm _ (sigs_box2 (unhide HE) (unhide HB)) he).mono ?_
    rintro e w1 ⟨rfl, rfl⟩
    go_wp2
    go_ret
    exact ⟨ret_int (by rw [unhide Q]), box2_below (unhide HB)⟩
  | false =>
    have Q1 := hide q1
    by_cases q2 : s.rl = 77 ∧ 0 ≤ muxOf E
    · have Q := hide (show errOf L E s sz = 4 by rw [errOf, if_neg (by rw [q1]; simp), if_pos q2])
      have q2a : (s.rl == 77) = true := by rw [q2.1]; rfl
      have q2b := q2.2
      clear q2
      go_enter Try.func58, Try.ntmps58
      go_wp2_with fail
      refine (hasName_any ev E s.nm _ (sigs_box2 (unhide HE) (unhide HB)) he).mono ?_
      rintro e w1 ⟨rfl, rfl⟩
      go_wp2_with fail
      refine (multiplexor_any ev E _ (sigs_box2 (unhide HE) (unhide HB)) he).mono ?_
      rintro e w1 ⟨rfl, rfl⟩
      go_wp2
      go_ret
      exact ⟨ret_int (by rw [unhide Q]), box2_below (unhide HB)⟩
    · have Q2 := hide q2
      clear q2
      by_cases q3 : s.rl = 77
      · have q3a : (s.rl == 77) = true := by rw [q3]; rfl
        have q3b : muxOf E < 0 := by have := unhide Q2; omega
        have q3c : isDigB s.rl = false := by rw [q3]; rfl
        have Q3 := hide q3
        clear q3
        cases q4 : anyIx (fun k => decide (8 * sz ≤ place s.st s.ln s.od k)) s.ln.toNat with
        | true =>
          have Q := hide (show errOf L E s sz = 5 by rw [errOf, if_neg (by rw [unhide Q1]; simp), if_neg (unhide Q2), if_neg (by rw [q3c]; simp), if_pos q4])
          go_enter Try.func58, Try.ntmps58
          go_wp2_with fail
          refine (hasName_any ev E s.nm _ (sigs_box2 (unhide HE) (unhide HB)) he).mono ?_
          rintro e w1 ⟨rfl, rfl⟩
          go_wp2_with fail
          refine (multiplexor_any ev E _ (sigs_box2 (unhide HE) (unhide HB)) he).mono ?_
          rintro e w1 ⟨rfl, rfl⟩
          go_wp2_with fail
          refine (multiplexor_any mv L _ (sigs_box2 (unhide HL) (unhide HB)) hl).mono ?_
          rintro e w1 ⟨rfl, rfl⟩
          go_wp2_with fail
          refine (isDigit_any _ _).mono ?_
          rintro e w1 ⟨rfl, rfl⟩
          go_wp2_with fail
          refine (reaches_any s.pl s.nm s.st s.ln s.od s.kd s.rl _ _ (unhide HS).st0 (unhide HS).st1 (unhide HS).ln0 (unhide HS).ln1 (unhide HS).od).mono ?_
          rintro e w1 ⟨rfl, hb1⟩
          have HB1 := hide (box2_next (unhide HB) hb1)
          have hd := fun j => (box2_cell (unhide HB1) j).2
          clear hb1
          go_wp2
          go_ret
          exact ⟨ret_int (by rw [unhide Q]), box2_below (unhide HB1)⟩
        | false =>
          have HF := hide (not_reaches hz q4)
          cases q5 : anyIx (fun k => shareB (sgAt E k) s && meetB (sgAt E k).rl s.rl) E.length with
          | true =>
            have Q := hide (show errOf L E s sz = 6 by rw [errOf, if_neg (by rw [unhide Q1]; simp), if_neg (unhide Q2), if_neg (by rw [q3c]; simp), if_neg (by rw [q4]; simp), if_pos q5])
            go_enter Try.func58, Try.ntmps58
            go_wp2_with fail
            refine (hasName_any ev E s.nm _ (sigs_box2 (unhide HE) (unhide HB)) he).mono ?_
            rintro e w1 ⟨rfl, rfl⟩
            go_wp2_with fail
            refine (multiplexor_any ev E _ (sigs_box2 (unhide HE) (unhide HB)) he).mono ?_
            rintro e w1 ⟨rfl, rfl⟩
            go_wp2_with fail
            refine (multiplexor_any mv L _ (sigs_box2 (unhide HL) (unhide HB)) hl).mono ?_
            rintro e w1 ⟨rfl, rfl⟩
            go_wp2_with fail
            refine (isDigit_any _ _).mono ?_
            rintro e w1 ⟨rfl, rfl⟩
            go_wp2_with fail
            refine (reaches_any s.pl s.nm s.st s.ln s.od s.kd s.rl _ _ (unhide HS).st0 (unhide HS).st1 (unhide HS).ln0 (unhide HS).ln1 (unhide HS).od).mono ?_
            rintro e w1 ⟨rfl, hb1⟩
            have HB1 := hide (box2_next (unhide HB) hb1)
            have hd := fun j => (box2_cell (unhide HB1) j).2
            clear hb1
            go_wp2_with fail
            refine (sharesWithAny_any ev E s _ (sigs_box2 (unhide HE) (unhide HB1)) he (unhide HOK) (unhide HS) (unhide HF)).mono ?_
            rintro e w2 ⟨rfl, hb2⟩
            have HB2 := hide (box2_next (unhide HB1) hb2)
            clear hb2
            go_wp2
            go_ret
            exact ⟨ret_int (by rw [unhide Q]), box2_below (unhide HB2)⟩
          | false =>
            have Q := hide (show errOf L E s sz = 0 by rw [errOf, if_neg (by rw [unhide Q1]; simp), if_neg (unhide Q2), if_neg (by rw [q3c]; simp), if_neg (by rw [q4]; simp), if_neg (by rw [q5]; simp)])
            go_enter Try.func58, Try.ntmps58
            go_wp2_with fail
            refine (hasName_any ev E s.nm _ (sigs_box2 (unhide HE) (unhide HB)) he).mono ?_
            rintro e w1 ⟨rfl, rfl⟩
            go_wp2_with fail
            refine (multiplexor_any ev E _ (sigs_box2 (unhide HE) (unhide HB)) he).mono ?_
            rintro e w1 ⟨rfl, rfl⟩
            go_wp2_with fail
            refine (multiplexor_any mv L _ (sigs_box2 (unhide HL) (unhide HB)) hl).mono ?_
            rintro e w1 ⟨rfl, rfl⟩
            go_wp2_with fail
            refine (isDigit_any _ _).mono ?_
            rintro e w1 ⟨rfl, rfl⟩
            go_wp2_with fail
            refine (reaches_any s.pl s.nm s.st s.ln s.od s.kd s.rl _ _ (unhide HS).st0 (unhide HS).st1 (unhide HS).ln0 (unhide HS).ln1 (unhide HS).od).mono ?_
            rintro e w1 ⟨rfl, hb1⟩
            have HB1 := hide (box2_next (unhide HB) hb1)
            have hd := fun j => (box2_cell (unhide HB1) j).2
            clear hb1
            go_wp2_with fail
            refine (sharesWithAny_any ev E s _ (sigs_box2 (unhide HE) (unhide HB1)) he (unhide HOK) (unhide HS) (unhide HF)).mono ?_
            rintro e w2 ⟨rfl, hb2⟩
            have HB2 := hide (box2_next (unhide HB1) hb2)
            clear hb2
            go_wp2
            go_ret
            exact ⟨ret_int (by rw [unhide Q]), box2_below (unhide HB2)⟩
      · have q3a : (s.rl == 77) = false := by simpa using q3
        have Q3 := hide q3
        clear q3
        cases q3c : isDigB s.rl with
        | true =>
          by_cases q6 : muxOf L < 0
          · have Q := hide (show errOf L E s sz = 4 by rw [errOf, if_neg (by rw [unhide Q1]; simp), if_neg (unhide Q2), if_pos ⟨q3c, q6⟩])
            go_enter Try.func58, Try.ntmps58
            go_wp2_with fail
            refine (hasName_any ev E s.nm _ (sigs_box2 (unhide HE) (unhide HB)) he).mono ?_
            rintro e w1 ⟨rfl, rfl⟩
            go_wp2_with fail
            refine (multiplexor_any mv L _ (sigs_box2 (unhide HL) (unhide HB)) hl).mono ?_
            rintro e w1 ⟨rfl, rfl⟩
            go_wp2_with fail
            refine (isDigit_any _ _).mono ?_
            rintro e w1 ⟨rfl, rfl⟩
            go_wp2
            go_ret
            exact ⟨ret_int (by rw [unhide Q]), box2_below (unhide HB)⟩
          · have q6' : 0 ≤ muxOf L := by omega
            cases q4 : anyIx (fun k => decide (8 * sz ≤ place s.st s.ln s.od k)) s.ln.toNat with
            | true =>
              have Q := hide (show errOf L E s sz = 5 by rw [errOf, if_neg (by rw [unhide Q1]; simp), if_neg (unhide Q2), if_neg (fun h => q6 h.2), if_pos q4])
              go_enter Try.func58, Try.ntmps58
              go_wp2_with fail
              refine (hasName_any ev E s.nm _ (sigs_box2 (unhide HE) (unhide HB)) he).mono ?_
              rintro e w1 ⟨rfl, rfl⟩
              go_wp2_with fail
              refine (multiplexor_any mv L _ (sigs_box2 (unhide HL) (unhide HB)) hl).mono ?_
              rintro e w1 ⟨rfl, rfl⟩
              go_wp2_with fail
              refine (isDigit_any _ _).mono ?_
              rintro e w1 ⟨rfl, rfl⟩
              go_wp2_with fail
              refine (reaches_any s.pl s.nm s.st s.ln s.od s.kd s.rl _ _ (unhide HS).st0 (unhide HS).st1 (unhide HS).ln0 (unhide HS).ln1 (unhide HS).od).mono ?_
              rintro e w1 ⟨rfl, hb1⟩
              have HB1 := hide (box2_next (unhide HB) hb1)
              have hd := fun j => (box2_cell (unhide HB1) j).2
              clear hb1
              go_wp2
              go_ret
              exact ⟨ret_int (by rw [unhide Q]), box2_below (unhide HB1)⟩
            | false =>
              have HF := hide (not_reaches hz q4)
              cases q5 : anyIx (fun k => shareB (sgAt E k) s && meetB (sgAt E k).rl s.rl) E.length with
              | true =>
                have Q := hide (show errOf L E s sz = 6 by rw [errOf, if_neg (by rw [unhide Q1]; simp), if_neg (unhide Q2), if_neg (fun h => q6 h.2), if_neg (by rw [q4]; simp), if_pos q5])
                go_enter Try.func58, Try.ntmps58
                go_wp2_with fail
                refine (hasName_any ev E s.nm _ (sigs_box2 (unhide HE) (unhide HB)) he).mono ?_
                rintro e w1 ⟨rfl, rfl⟩
                go_wp2_with fail
                refine (multiplexor_any mv L _ (sigs_box2 (unhide HL) (unhide HB)) hl).mono ?_
                rintro e w1 ⟨rfl, rfl⟩
                go_wp2_with fail
                refine (isDigit_any _ _).mono ?_
                rintro e w1 ⟨rfl, rfl⟩
                go_wp2_with fail
                refine (reaches_any s.pl s.nm s.st s.ln s.od s.kd s.rl _ _ (unhide HS).st0 (unhide HS).st1 (unhide HS).ln0 (unhide HS).ln1 (unhide HS).od).mono ?_
                rintro e w1 ⟨rfl, hb1⟩
                have HB1 := hide (box2_next (unhide HB) hb1)
                have hd := fun j => (box2_cell (unhide HB1) j).2
                clear hb1
                go_wp2_with fail
                refine (sharesWithAny_any ev E s _ (sigs_box2 (unhide HE) (unhide HB1)) he (unhide HOK) (unhide HS) (unhide HF)).mono ?_
                rintro e w2 ⟨rfl, hb2⟩
                have HB2 := hide (box2_next (unhide HB1) hb2)
                clear hb2
                go_wp2
                go_ret
                exact ⟨ret_int (by rw [unhide Q]), box2_below (unhide HB2)⟩
              | false =>
                have Q := hide (show errOf L E s sz = 0 by rw [errOf, if_neg (by rw [unhide Q1]; simp), if_neg (unhide Q2), if_neg (fun h => q6 h.2), if_neg (by rw [q4]; simp), if_neg (by rw [q5]; simp)])
                go_enter Try.func58, Try.ntmps58
                go_wp2_with fail
                refine (hasName_any ev E s.nm _ (sigs_box2 (unhide HE) (unhide HB)) he).mono ?_
                rintro e w1 ⟨rfl, rfl⟩
                go_wp2_with fail
                refine (multiplexor_any mv L _ (sigs_box2 (unhide HL) (unhide HB)) hl).mono ?_
                rintro e w1 ⟨rfl, rfl⟩
                go_wp2_with fail
                refine (isDigit_any _ _).mono ?_
                rintro e w1 ⟨rfl, rfl⟩
                go_wp2_with fail
                refine (reaches_any s.pl s.nm s.st s.ln s.od s.kd s.rl _ _ (unhide HS).st0 (unhide HS).st1 (unhide HS).ln0 (unhide HS).ln1 (unhide HS).od).mono ?_
                rintro e w1 ⟨rfl, hb1⟩
                have HB1 := hide (box2_next (unhide HB) hb1)
                have hd := fun j => (box2_cell (unhide HB1) j).2
                clear hb1
                go_wp2_with fail
                refine (sharesWithAny_any ev E s _ (sigs_box2 (unhide HE) (unhide HB1)) he (unhide HOK) (unhide HS) (unhide HF)).mono ?_
                rintro e w2 ⟨rfl, hb2⟩
                have HB2 := hide (box2_next (unhide HB1) hb2)
                clear hb2
                go_wp2
                go_ret
                exact ⟨ret_int (by rw [unhide Q]), box2_below (unhide HB2)⟩
        | false =>
          cases q4 : anyIx (fun k => decide (8 * sz ≤ place s.st s.ln s.od k)) s.ln.toNat with
          | true =>
            have Q := hide (show errOf L E s sz = 5 by rw [errOf, if_neg (by rw [unhide Q1]; simp), if_neg (unhide Q2), if_neg (by rw [q3c]; simp), if_pos q4])
            go_enter Try.func58, Try.ntmps58
            go_wp2_with fail
            refine (hasName_any ev E s.nm _ (sigs_box2 (unhide HE) (unhide HB)) he).mono ?_
            rintro e w1 ⟨rfl, rfl⟩
            go_wp2_with fail
            refine (multiplexor_any mv L _ (sigs_box2 (unhide HL) (unhide HB)) hl).mono ?_
            rintro e w1 ⟨rfl, rfl⟩
            go_wp2_with fail
            refine (isDigit_any _ _).mono ?_
            rintro e w1 ⟨rfl, rfl⟩
            go_wp2_with fail
            refine (reaches_any s.pl s.nm s.st s.ln s.od s.kd s.rl _ _ (unhide HS).st0 (unhide HS).st1 (unhide HS).ln0 (unhide HS).ln1 (unhide HS).od).mono ?_
            rintro e w1 ⟨rfl, hb1⟩
            have HB1 := hide (box2_next (unhide HB) hb1)
            have hd := fun j => (box2_cell (unhide HB1) j).2
            clear hb1
            go_wp2
            go_ret
            exact ⟨ret_int (by rw [unhide Q]), box2_below (unhide HB1)⟩
          | false =>
            have HF := hide (not_reaches hz q4)
            cases q5 : anyIx (fun k => shareB (sgAt E k) s && meetB (sgAt E k).rl s.rl) E.length with
            | true =>
              have Q := hide (show errOf L E s sz = 6 by rw [errOf, if_neg (by rw [unhide Q1]; simp), if_neg (unhide Q2), if_neg (by rw [q3c]; simp), if_neg (by rw [q4]; simp), if_pos q5])
              go_enter Try.func58, Try.ntmps58
              go_wp2_with fail
              refine (hasName_any ev E s.nm _ (sigs_box2 (unhide HE) (unhide HB)) he).mono ?_
              rintro e w1 ⟨rfl, rfl⟩
              go_wp2_with fail
              refine (multiplexor_any mv L _ (sigs_box2 (unhide HL) (unhide HB)) hl).mono ?_
              rintro e w1 ⟨rfl, rfl⟩
              go_wp2_with fail
              refine (isDigit_any _ _).mono ?_
              rintro e w1 ⟨rfl, rfl⟩
              go_wp2_with fail
              refine (reaches_any s.pl s.nm s.st s.ln s.od s.kd s.rl _ _ (unhide HS).st0 (unhide HS).st1 (unhide HS).ln0 (unhide HS).ln1 (unhide HS).od).mono ?_
              rintro e w1 ⟨rfl, hb1⟩
              have HB1 := hide (box2_next (unhide HB) hb1)
              have hd := fun j => (box2_cell (unhide HB1) j).2
              clear hb1
              go_wp2_with fail
              refine (sharesWithAny_any ev E s _ (sigs_box2 (unhide HE) (unhide HB1)) he (unhide HOK) (unhide HS) (unhide HF)).mono ?_
              rintro e w2 ⟨rfl, hb2⟩
              have HB2 := hide (box2_next (unhide HB1) hb2)
              clear hb2
              go_wp2
              go_ret
              exact ⟨ret_int (by rw [unhide Q]), box2_below (unhide HB2)⟩
            | false =>
              have Q := hide (show errOf L E s sz = 0 by rw [errOf, if_neg (by rw [unhide Q1]; simp), if_neg (unhide Q2), if_neg (by rw [q3c]; simp), if_neg (by rw [q4]; simp), if_neg (by rw [q5]; simp)])
              go_enter Try.func58, Try.ntmps58
              go_wp2_with fail
              refine (hasName_any ev E s.nm _ (sigs_box2 (unhide HE) (unhide HB)) he).mono ?_
              rintro e w1 ⟨rfl, rfl⟩
              go_wp2_with fail
              refine (multiplexor_any mv L _ (sigs_box2 (unhide HL) (unhide HB)) hl).mono ?_
              rintro e w1 ⟨rfl, rfl⟩
              go_wp2_with fail
              refine (isDigit_any _ _).mono ?_
              rintro e w1 ⟨rfl, rfl⟩
              go_wp2_with fail
              refine (reaches_any s.pl s.nm s.st s.ln s.od s.kd s.rl _ _ (unhide HS).st0 (unhide HS).st1 (unhide HS).ln0 (unhide HS).ln1 (unhide HS).od).mono ?_
              rintro e w1 ⟨rfl, hb1⟩
              have HB1 := hide (box2_next (unhide HB) hb1)
              have hd := fun j => (box2_cell (unhide HB1) j).2
              clear hb1
              go_wp2_with fail
              refine (sharesWithAny_any ev E s _ (sigs_box2 (unhide HE) (unhide HB1)) he (unhide HOK) (unhide HS) (unhide HF)).mono ?_
              rintro e w2 ⟨rfl, hb2⟩
              have HB2 := hide (box2_next (unhide HB1) hb2)
              clear hb2
              go_wp2
              go_ret
              exact ⟨ret_int (by rw [unhide Q]), box2_below (unhide HB2)⟩

end Go.Proofs.Ytljodhcfimklkab
