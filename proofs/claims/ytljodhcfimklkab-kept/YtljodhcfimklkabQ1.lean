import Derived.Test.YtljodhcfimklkabP
namespace Go.Proofs.Ytljodhcfimklkab
open Go.RowKit

theorem rdSignal_at (s : ByteArray) (i : Nat) (w : World) (h : ¬ nSig s i < 9) :
    Calls Try.prog 57 #[.string (s.extract i (i + 9))] w fun e w' =>
      e = .returned (.agg #[.int .i64 0, .int .u8 (mkSig s i).nm, .int .i64 (mkSig s i).st, .int .i64 (mkSig s i).ln, .int .u8 (mkSig s i).od, .int .u8 (mkSig s i).kd, .int .u8 (mkSig s i).rl]) ∧ Below w.heap.size w w' := by
  have h8 := (nSig_full h 8 (by omega)).1
  refine (readSignal_any (s.extract i (i + 9)) w (by rw [ByteArray.size_extract]; omega)).mono ?_
  rintro e w' ⟨rfl, hb⟩
  refine ⟨?_, hb⟩
  rw [bt_extract s i 9 1 (by omega) (by omega), bt_extract s i 9 2 (by omega) (by omega), bt_extract s i 9 3 (by omega) (by omega), bt_extract s i 9 4 (by omega) (by omega), bt_extract s i 9 5 (by omega) (by omega), bt_extract s i 9 6 (by omega) (by omega), bt_extract s i 9 7 (by omega) (by omega), bt_extract s i 9 8 (by omega) (by omega)]
  rfl

theorem blk_cell {w : World} {b t : Nat} {cur : Array Value} (h : w.heap[b]? = some (.cells cur t (0, 0))) (j : Nat) : w.cell? ⟨b, j, none⟩ = cur[j]? := cell_of_row w b j cur t (0, 0) h
theorem blk_free {w : World} {b t : Nat} {cur : Array Value} (h : w.heap[b]? = some (.cells cur t (0, 0))) (j : Nat) : w.frozen? ⟨b, j, none⟩ = false := by simp [World.frozen?, h]
theorem blk_lt {w : World} {b : Nat} {o : Obj} (h : w.heap[b]? = some o) : b < w.heap.size := (Array.getElem?_eq_some_iff.1 h).1
theorem blk_below {w w' : World} {b : Nat} {o : Obj} (h : w.heap[b]? = some o) (hb : Below w.heap.size w w') : w'.heap[b]? = some o := by rw [hb.block b (blk_lt h)]; exact h
theorem blk_alloc {w : World} {b : Nat} {o o' : Obj} (h : w.heap[b]? = some o) : (w.alloc o').heap[b]? = some o := by rw [Below.heap_alloc _ _ _ (blk_lt h)]; exact h
theorem blk_new (w : World) (o : Obj) : (w.alloc o).heap[w.heap.size]? = some o := heap_alloc_new w o
theorem blk_grown {w w' : World} {b : Nat} {o : Obj} {row : Option Nat} (h : w.heap[b]? = some o) (hg : w.grownBy w' row) (hr : some b ≠ row) : w'.heap[b]? = some o := by rw [hg.block b (blk_lt h) hr]; exact h
theorem ownsRow_base {w : World} {B e s : Nat} {v : Value} {n : Nat} {xs : List Value} (h : w.ownsRow B e s v n xs) : w.ownsRow 0 e s v n xs := by
  refine ⟨h.1, ?_⟩
  rcases h.2 with hn | ⟨g, cap, cur, hv, _, r⟩
  · exact .inl hn
  · exact .inr ⟨g, cap, cur, hv, Nat.zero_le _, r⟩
theorem ownsRow_bel {w w' : World} {B e s : Nat} {v : Value} {n : Nat} {xs : List Value} (h : w.ownsRow B e s v n xs) (hb : Below w.heap.size w w') : w'.ownsRow B e s v n xs := by
  refine ⟨h.1, ?_⟩
  rcases h.2 with hn | ⟨g, cap, cur, rfl, h0, hg, r⟩
  · exact .inl hn
  · exact .inr ⟨g, cap, cur, rfl, h0, by rw [hb.block g (Array.getElem?_eq_some_iff.1 hg).1]; exact hg, r⟩

theorem Try.infoSig : (Try.prog.info? 73).map (fun i => (i.zero, i.size, i.bytes)) = some (some (.agg #[.int .i64 0, .int .u8 0, .int .i64 0, .int .i64 0, .int .u8 0, .int .u8 0, .int .u8 0]), 7, 40) := by kernel_rfl

theorem ownsRow_form {w : World} {B e s : Nat} {v : Value} {n : Nat} {xs : List Value} (h : w.ownsRow B e s v n xs) : ∃ a cap, v = .slice a n cap := by
  rcases h.2 with ⟨rfl, rfl⟩ | ⟨g, cap, cur, rfl, _⟩
  · exact ⟨_, _, rfl⟩
  · exact ⟨_, _, rfl⟩

theorem new_cells {w : World} {b t : Nat} {l : List Value} (h : w.heap[b]? = some (.cells l.toArray t (0, 0))) : ∀ j u, l[j]? = some u → w.cell? ((⟨b, 0, none⟩ : Addr).add j) = some u := by
  intro j u hj
  have : (⟨b, 0, none⟩ : Addr).add j = ⟨b, j, none⟩ := by unfold Addr.add; split <;> simp_all
  rw [this, blk_cell h]
  simpa using hj

theorem new_two (w : World) (o1 o : Obj) : ((w.alloc o1).alloc o).heap[w.heap.size + 1]? = some o := by
  have := blk_new (w.alloc o1) o
  rw [World.size_alloc] at this
  exact this
theorem blk_set {w : World} {b t : Nat} {cur : Array Value} (h : w.heap[b]? = some (.cells cur t (0, 0))) (j : Nat) (u : Value) : (w.setCell ⟨b, j, none⟩ u).heap[b]? = some (.cells (cur.setIfInBounds j u) t (0, 0)) := by
  have hlt := lt_of_block h
  have h' : w.heap[b] = .cells cur t (0, 0) := by simpa [Array.getElem?_eq_getElem hlt] using h
  show (w.heap.modify b _)[b]? = _
  rw [Array.getElem?_eq_getElem (by simpa using hlt), Array.getElem_modify_self, h']
  rfl
theorem blk_set_other {w : World} {b c j : Nat} {o : Obj} (u : Value) (h : w.heap[b]? = some o) (hne : b ≠ c) : (w.setCell ⟨c, j, none⟩ u).heap[b]? = some o := by
  rw [Below.heap_setCell _ _ _ _ hne]; exact h

/-- What a reading of the message at i answers: the place where it cannot go on, or the message. -/
def MsgOut (s : ByteArray) (i : Nat) (e : Ending) (w' : World) : Prop :=
  match pMsg s i with
  | .inl p => e = .returned (.tuple #[.agg #[.int .i64 0, .int .i64 0, .int .i64 0, .slice none 0 0], .bool false, .int .i64 p])
  | .inr (m, q) => ∃ sv, e = .returned (.tuple #[.agg #[.int .i64 m.pl, .int .i64 (idNum m.id), .int .i64 m.sz, sv], .bool true, .int .i64 q]) ∧ SigsAt w' sv m.sigs

theorem MsgOut_bad {s : ByteArray} {i p : Nat} {w' : World} {q : Int} (h : pMsg s i = .inl p) (hq : q = p) : MsgOut s i (.returned (.tuple #[.agg #[.int .i64 0, .int .i64 0, .int .i64 0, .slice none 0 0], .bool false, .int .i64 q])) w' := by
  unfold MsgOut; rw [h, hq]
theorem MsgOut_good {s : ByteArray} {i q : Nat} {l : List Sg} {w' : World} {sv : Value} {idn sz : Int} (h : pMsg s i = .inr (mkMsg s i l, q)) (hid : idn = idNum (s.extract i (i + 3))) (hsz : sz = bt s (i + 3) - 48) (hs : SigsAt w' sv l) :
    MsgOut s i (.returned (.tuple #[.agg #[.int .i64 i, .int .i64 idn, .int .i64 sz, sv], .bool true, .int .i64 q])) w' := by
  unfold MsgOut; rw [h, hid, hsz]; exact ⟨sv, rfl, hs⟩
theorem pMsg_sigs {s : ByteArray} {i : Nat} (hn : ¬ nHead s i < 4) : pMsg s i = match pSigs s 8 (i + 4) with | .inl p => .inl p | .inr (l, e) => .inr (mkMsg s i l, e) := by
  rw [pMsg, if_neg hn]
  rcases pSigs s 8 (i + 4) with p | ⟨l, e⟩ <;> rfl

theorem set4_owns {wr : World} {B e s : Nat} {v : Value} {n : Nat} {xs : List Value} (h : wr.ownsRow (B + 2) e s v n xs) (u0 u1 u2 u3 : Value) :
    ((((wr.setCell ⟨B, 0, none⟩ u0).setCell ⟨B, 1, none⟩ u1).setCell ⟨B, 2, none⟩ u2).setCell ⟨B, 3, none⟩ u3).ownsRow 0 e s v n xs :=
  ownsRow_base (ownsRow_setCell_below (ownsRow_setCell_below (ownsRow_setCell_below (ownsRow_setCell_below h (a := ⟨B, 0, none⟩) (by simp) u0) (a := ⟨B, 1, none⟩) (by simp) u1) (a := ⟨B, 2, none⟩) (by simp) u2) (a := ⟨B, 3, none⟩) (by simp) u3)
theorem set4_below {w wr : World} (h : Below w.heap.size w wr) (u0 u1 u2 u3 : Value) :
    Below w.heap.size w ((((wr.setCell ⟨w.heap.size, 0, none⟩ u0).setCell ⟨w.heap.size, 1, none⟩ u1).setCell ⟨w.heap.size, 2, none⟩ u2).setCell ⟨w.heap.size, 3, none⟩ u3) :=
  (((h.setCell (p := ⟨w.heap.size, 0, none⟩) (Nat.le_refl _) u0).setCell (p := ⟨w.heap.size, 1, none⟩) (Nat.le_refl _) u1).setCell (p := ⟨w.heap.size, 2, none⟩) (Nat.le_refl _) u2).setCell (p := ⟨w.heap.size, 3, none⟩) (Nat.le_refl _) u3

set_option maxRecDepth 100000 in
set_option maxHeartbeats 2000000 in
theorem readMessage_yes (s : ByteArray) (i : Nat) (w : World) (hs : s.size ≤ 320) (hn : ¬ nHead s i < 4) :
    Calls Try.prog 50 #[.string s, .int .i64 i] w fun e w' => MsgOut s i e w' ∧ Below w.heap.size w w' := by
  obtain ⟨i0, hinf, hz0, hz1, hz2⟩ := info_parts Try.infoSig
  have hall := nHead_full hn
  have h3 := (hall 3 (by omega)).1
  obtain ⟨n4, HN4⟩ : ∃ n, Hid (n = nHead s i) := ⟨_, hide rfl⟩
  have hn' : decide ((n4 : Int) < 4) = false := by rw [← unhide HN4] at hn; simp; omega
  have hlo := bt_lo s (i + 3)
  have hhi := bt_hi s (i + 3)
  rw [← bt_of h3] at hlo hhi
  obtain ⟨sz, HSZ⟩ : ∃ z : Int, Hid (z = worth (s[i + 3].toNat : Int)) := ⟨_, hide rfl⟩
  obtain ⟨idn, HID⟩ : ∃ z : Int, Hid (z = idNum (s.extract i (i + 3))) := ⟨_, hide rfl⟩
  have HN := hide hn
  have HALL := hide hall
  have HINF := hide hinf
  have HZ0 := hide hz0
  have HZ1 := hide hz1
  have HZ2 := hide hz2
  clear hn hall hinf hz0 hz1 hz2
  go_enter Try.func50, Try.ntmps50
  go_wp2_with fail
  refine (rightHead_any s i _ hs (by omega)).mono ?_
  rintro e w1 ⟨rfl, rfl⟩
  rw [← unhide HN4]
  go_wp2_with fail
  refine (idNumber_any _ _ (by rw [ByteArray.size_extract]; unfold maxLen; omega)).mono ?_
  rintro e w1 ⟨rfl, rfl⟩
  rw [← unhide HID]
  go_wp2_with fail
  refine (digitWorth_any _ _ hlo hhi).mono ?_
  rintro e w1 ⟨rfl, rfl⟩
  rw [← unhide HSZ]
  go_wp2
  clear hn' hlo hhi
  go_loopw [1, 7, 10] (fun a _ _ wr => ∃ (p : Nat) (acc : List Sg) (sv : Value), a = .int .i64 p ∧ p ≤ s.size ∧ acc.length ≤ 8 ∧ wr.heap[w.heap.size]? = some (.cells #[.int .i64 0, .int .i64 0, .int .i64 0, .slice none 0 0] 35 (0, 0)) ∧
      wr.heap[w.heap.size + 1]? = some (.cells #[.int .i64 i, .int .i64 idn, .int .i64 sz, sv] 35 (0, 0)) ∧ wr.ownsRow (w.heap.size + 2) 73 7 sv acc.length (acc.flatMap Sg.cells) ∧
      Below w.heap.size w wr ∧ glue acc (pSigs s (8 - acc.length) p) = pSigs s 8 (i + 4)) (fun a _ _ _ => s.size + 10 - (intOf a).toNat)
  case atStart => exact ⟨i + 4, [], .slice none 0 0, by simp, by omega, by simp, blk_alloc (blk_new _ _), new_two _ _ _, World.ownsRow_nil _ _ _ _, ((Below.refl _ _).alloc (Nat.le_refl _) _).alloc (by simp) _, glue_nil _⟩
  case round =>
    obtain ⟨p, acc, sv, rfl, hp, hacc, hB0, hB1, hown, hbel, hgl⟩ := hrel
    obtain ⟨sa, cap, rfl⟩ := ownsRow_form hown
    have HB0 := hide hB0
    have HB1 := hide hB1
    have HOWN := hide hown
    have HBEL := hide hbel
    have HGL := hide hgl
    clear hB0 hB1 hown hbel hgl
    have hc3 : wr.cell? ⟨w.heap.size + 1, 3, none⟩ = some (.slice sa acc.length cap) := blk_cell (unhide HB1) 3
    by_cases hgo : acc.length < 8 ∧ p < s.size ∧ bt s p = 44
    · obtain ⟨ha8, hps, h44⟩ := hgo
      have e44 : ((s[p].toNat : Int) == 44) = true := by rw [bt_of hps, h44]; rfl
      have H44 := hide h44
      clear h44
      by_cases hns : nSig s p < 9
      · obtain ⟨n9, HN9⟩ : ∃ n, Hid (n = nSig s p) := ⟨_, hide rfl⟩
        have hns' : (n9 : Int) < 9 := by rw [← unhide HN9] at hns; omega
        have HFIN := hide (show pMsg s i = .inl (p + n9) by rw [pMsg_sigs (unhide HN), ← unhide HGL, glue_bad (by omega) ⟨hps, unhide H44⟩ hns, unhide HN9])
        clear hns
        have f0 : wr.frozen? ⟨w.heap.size, 0, none⟩ = false := blk_free (unhide HB0) 0
        have f1 : wr.frozen? ⟨w.heap.size, 1, none⟩ = false := blk_free (unhide HB0) 1
        have f2 : wr.frozen? ⟨w.heap.size, 2, none⟩ = false := blk_free (unhide HB0) 2
        have f3 : wr.frozen? ⟨w.heap.size, 3, none⟩ = false := blk_free (unhide HB0) 3
        have b0 : wr.cell? ⟨w.heap.size, 0, none⟩ = some (.int .i64 0) := blk_cell (unhide HB0) 0
        have b1 : wr.cell? ⟨w.heap.size, 1, none⟩ = some (.int .i64 0) := blk_cell (unhide HB0) 1
        have b2 : wr.cell? ⟨w.heap.size, 2, none⟩ = some (.int .i64 0) := blk_cell (unhide HB0) 2
        have b3 : wr.cell? ⟨w.heap.size, 3, none⟩ = some (.slice none 0 0) := blk_cell (unhide HB0) 3
        go_wp2_with fail
        refine (rightSig_any s p _ hs (by omega)).mono ?_
        rintro e w1 ⟨rfl, rfl⟩
        rw [← unhide HN9]
        go_wp2
        exact bodyPost_ret (v := .tuple #[.agg #[.int .i64 0, .int .i64 0, .int .i64 0, .slice none 0 0], .bool false, .int .i64 (p + n9)]) (by simp [results, Try.results50, go_sem, b0, b1, b2, b3]) rfl ⟨MsgOut_bad (unhide HFIN) (by simp), set4_below (unhide HBEL) _ _ _ _⟩
      · have HNS := hide hns
        have h8 := (nSig_full hns 8 (by omega)).1
        obtain ⟨n9, HN9⟩ : ∃ n, Hid (n = nSig s p) := ⟨_, hide rfl⟩
        have hns' : decide ((n9 : Int) < 9) = false := by rw [← unhide HN9] at hns; simp; omega
        clear hns
        go_wp2_with fail
        refine (rightSig_any s p _ hs (by omega)).mono ?_
        rintro e w1 ⟨rfl, rfl⟩
        rw [← unhide HN9]
        go_wp2_with fail
        refine (rdSignal_at s p _ (unhide HNS)).mono ?_
        rintro e w2 ⟨rfl, hb2⟩
        have HB0' := hide (blk_below (unhide HB0) hb2)
        have HB1' := hide (blk_below (unhide HB1) hb2)
        have HOWN' := hide (ownsRow_bel (unhide HOWN) hb2)
        have HBEL' := hide ((unhide HBEL).trans (hb2.mono (unhide HBEL).size))
        clear hc3 hb2
        have hc3 : w2.cell? ⟨w.heap.size + 1, 3, none⟩ = some (.slice sa acc.length cap) := blk_cell (unhide HB1') 3
        have hlt1 : w.heap.size + 1 < w2.heap.size := blk_lt (unhide HB1')
        have hf3 : w2.frozen? ⟨w.heap.size + 1, 3, none⟩ = false := blk_free (unhide HB1') 3
        go_wp2_with (at_builtin; refine wpList_append_own _ rfl _ _ 33 rfl (w.heap.size + 2) 73 i0 _ 7 40 Try.underlying33 (unhide HINF) (unhide HZ0) (unhide HZ1) (unhide HZ2) rfl (by decide) _ _ _ rfl (((unhide HOWN').alloc _).alloc _) ⟨w2.heap.size + 1, 0, none⟩ 1 1 (mkSig s p).cells rfl rfl ?c1 ?c2 ?c3 ?c4 ?c5 ?_)
        case c1 => exact new_cells (new_two _ _ _)
        case c2 => simp [Sg.cells, Value.oneCell']
        case c3 => unfold maxLen; omega
        case c4 => omega
        case c5 => simp; omega
        intro v3 w3 hown3 hgrow _
        obtain ⟨a3, cap3, rfl⟩ := ownsRow_form hown3
        have hne : ∀ b, b < w.heap.size + 2 → some b ≠ (Value.slice sa acc.length cap).ownBlock := by
          intro b hb e
          have := (unhide HOWN').lt b e.symm
          omega
        have HB0'' := hide (blk_grown (blk_alloc (blk_alloc (unhide HB0'))) hgrow (hne _ (by omega)))
        have HB1'' := hide (blk_grown (blk_alloc (blk_alloc (unhide HB1'))) hgrow (hne _ (by omega)))
        have HBEL'' := hide (Below.grown (((unhide HBEL').alloc (by have := (unhide HBEL').size; omega) _).alloc (by have := (unhide HBEL').size; simp; omega) _) hgrow (by have := (unhide HBEL').size; simp; omega) (fun k hk => by have := (unhide HOWN').lt k hk; omega))
        have HOWN3 := hide hown3
        clear hown3 hgrow hne hc3 hf3 hlt1
        have hc3 : w3.cell? ⟨w.heap.size + 1, 3, none⟩ = some (.slice sa acc.length cap) := blk_cell (unhide HB1'') 3
        have hf3 : w3.frozen? ⟨w.heap.size + 1, 3, none⟩ = false := blk_free (unhide HB1'') 3
        go_wp2
        go_roundw
        case rel =>
          refine ⟨p + 9, acc ++ [mkSig s p], .slice a3 (acc.length + 1) cap3, by go_num, by omega, by simp; omega, blk_set_other _ (unhide HB0'') (by omega), blk_set (unhide HB1'') 3 _, ?_, (unhide HBEL'').setCell (by simp) _, ?_⟩
          · have := ownsRow_setCell_below (unhide HOWN3) (a := ⟨w.heap.size + 1, 3, none⟩) (by simp) (.slice a3 (acc.length + 1) cap3)
            simpa [List.flatMap_append] using this
          · rw [← unhide HGL, glue_step (by omega) ⟨hps, unhide H44⟩ (unhide HNS), List.length_append]
            congr 2
        case measure => simp [intOf]; omega
    · have hend : glue acc (pSigs s (8 - acc.length) p) = .inr (acc, p) := glue_stop (by
        by_cases h1 : acc.length < 8
        · exact .inr (fun h => hgo ⟨h1, h⟩)
        · exact .inl (by omega))
      have hfin : pMsg s i = .inr (mkMsg s i acc, p) := by rw [pMsg_sigs (unhide HN), ← unhide HGL, hend]
      have HFIN := hide hfin
      clear hend hfin
      have hz : sz = bt s (i + 3) - 48 := by
        have := (unhide HALL 3 (by omega)).2
        simp [headB] at this
        rw [unhide HSZ, bt_of h3]; exact dig_worth (by omega) (by omega)
      have HZ := hide hz
      clear hz
      have hways : (8 : Int) ≤ (acc.length : Int) ∨ ((acc.length : Int) < 8 ∧ (s.size : Int) ≤ (p : Int)) ∨ ((acc.length : Int) < 8 ∧ p < s.size ∧ bt s p ≠ 44) := by
        by_cases h1 : acc.length < 8
        · by_cases h2 : p < s.size
          · exact .inr (.inr ⟨by omega, h2, fun h => hgo ⟨h1, h2, h⟩⟩)
          · exact .inr (.inl ⟨by omega, by omega⟩)
        · exact .inl (by omega)
      clear hgo
      have d0 : wr.cell? ⟨w.heap.size + 1, 0, none⟩ = some (.int .i64 i) := blk_cell (unhide HB1) 0
      have d1 : wr.cell? ⟨w.heap.size + 1, 1, none⟩ = some (.int .i64 idn) := blk_cell (unhide HB1) 1
      have d2 : wr.cell? ⟨w.heap.size + 1, 2, none⟩ = some (.int .i64 sz) := blk_cell (unhide HB1) 2
      have f0 : wr.frozen? ⟨w.heap.size, 0, none⟩ = false := blk_free (unhide HB0) 0
      have f1 : wr.frozen? ⟨w.heap.size, 1, none⟩ = false := blk_free (unhide HB0) 1
      have f2 : wr.frozen? ⟨w.heap.size, 2, none⟩ = false := blk_free (unhide HB0) 2
      have f3 : wr.frozen? ⟨w.heap.size, 3, none⟩ = false := blk_free (unhide HB0) 3
      have b0 : wr.cell? ⟨w.heap.size, 0, none⟩ = some (.int .i64 0) := blk_cell (unhide HB0) 0
      have b1 : wr.cell? ⟨w.heap.size, 1, none⟩ = some (.int .i64 0) := blk_cell (unhide HB0) 1
      have b2 : wr.cell? ⟨w.heap.size, 2, none⟩ = some (.int .i64 0) := blk_cell (unhide HB0) 2
      have b3 : wr.cell? ⟨w.heap.size, 3, none⟩ = some (.slice none 0 0) := blk_cell (unhide HB0) 3
      rcases hways with hq | ⟨hq, hq2⟩ | ⟨hq, hq2, hq3⟩
      · go_wp2
        exact bodyPost_ret (v := .tuple #[.agg #[.int .i64 i, .int .i64 idn, .int .i64 sz, .slice sa acc.length cap], .bool true, .int .i64 p]) (by simp [results, Try.results50, go_sem, b0, b1, b2, b3]) rfl ⟨MsgOut_good (unhide HFIN) (unhide HID) (unhide HZ) (set4_owns (unhide HOWN) _ _ _ _), set4_below (unhide HBEL) _ _ _ _⟩
      · go_wp2
        exact bodyPost_ret (v := .tuple #[.agg #[.int .i64 i, .int .i64 idn, .int .i64 sz, .slice sa acc.length cap], .bool true, .int .i64 p]) (by simp [results, Try.results50, go_sem, b0, b1, b2, b3]) rfl ⟨MsgOut_good (unhide HFIN) (unhide HID) (unhide HZ) (set4_owns (unhide HOWN) _ _ _ _), set4_below (unhide HBEL) _ _ _ _⟩
      · have hq4 : ((s[p].toNat : Int) == 44) = false := by rw [bt_of hq2]; simpa using hq3
        clear hq3
        go_wp2
        exact bodyPost_ret (v := .tuple #[.agg #[.int .i64 i, .int .i64 idn, .int .i64 sz, .slice sa acc.length cap], .bool true, .int .i64 p]) (by simp [results, Try.results50, go_sem, b0, b1, b2, b3]) rfl ⟨MsgOut_good (unhide HFIN) (unhide HID) (unhide HZ) (set4_owns (unhide HOWN) _ _ _ _), set4_below (unhide HBEL) _ _ _ _⟩

set_option maxHeartbeats 400000 in
theorem readMessage_no (s : ByteArray) (i : Nat) (w : World) (hs : s.size ≤ 320) (hi : i ≤ s.size + 1) (hn : nHead s i < 4) :
    Calls Try.prog 50 #[.string s, .int .i64 i] w fun e w' => MsgOut s i e w' ∧ Below w.heap.size w w' := by
  obtain ⟨n4, HN4⟩ : ∃ n, Hid (n = nHead s i) := ⟨_, hide rfl⟩
  have hn' : (n4 : Int) < 4 := by rw [← unhide HN4] at hn; omega
  have HFIN := hide (show pMsg s i = .inl (i + n4) by rw [pMsg, if_pos hn, unhide HN4])
  clear hn
  go_enter Try.func50, Try.ntmps50
  go_wp2_with fail
  refine (rightHead_any s i _ hs (by omega)).mono ?_
  rintro e w1 ⟨rfl, rfl⟩
  rw [← unhide HN4]
  go_wp2
  exact bodyPost_ret (v := .tuple #[.agg #[.int .i64 0, .int .i64 0, .int .i64 0, .slice none 0 0], .bool false, .int .i64 (i + n4)]) (by simp [results, Try.results50, go_sem]) rfl ⟨MsgOut_bad (unhide HFIN) (by simp), (Below.refl _ _).alloc (Nat.le_refl _) _⟩

theorem readMessage_any (s : ByteArray) (i : Nat) (w : World) (hs : s.size ≤ 320) (hi : i ≤ s.size + 1) :
    Calls Try.prog 50 #[.string s, .int .i64 i] w fun e w' => MsgOut s i e w' ∧ Below w.heap.size w w' := by
  by_cases hn : nHead s i < 4
  · exact readMessage_no s i w hs hi hn
  · exact readMessage_yes s i w hs hn

end Go.Proofs.Ytljodhcfimklkab
