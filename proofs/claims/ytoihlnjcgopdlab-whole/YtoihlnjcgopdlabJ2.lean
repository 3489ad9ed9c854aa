import Derived.Test.YtoihlnjcgopdlabJ1
import Derived.Laws.BytesArg
namespace Go.Proofs.Ytoihlnjcgopdlab
open Go.RowKit

theorem rdSignal_at (s : ByteArray) (i : Nat) (w : World) (h : ¬ nSig s i < 9) :
    Calls Try.prog 105 #[.string (s.extract i (i + 9))] w fun e w' =>
      e = .returned (.agg #[.int .i64 0, .int .u8 (mkSig s i).nm, .int .i64 (mkSig s i).st, .int .i64 (mkSig s i).ln, .int .u8 (mkSig s i).od, .int .u8 (mkSig s i).kd, .int .u8 (mkSig s i).rl]) ∧ Below w.heap.size w w' := by
  have h8 := (nSig_full h 8 (by omega)).1
  refine (readSignal_any (s.extract i (i + 9)) w (by rw [ByteArray.size_extract]; omega)).mono ?_
  rintro e w' ⟨rfl, hb⟩
  refine ⟨?_, hb⟩
  rw [bt_extract s i 9 1 (by omega) (by omega), bt_extract s i 9 2 (by omega) (by omega), bt_extract s i 9 3 (by omega) (by omega), bt_extract s i 9 4 (by omega) (by omega), bt_extract s i 9 5 (by omega) (by omega), bt_extract s i 9 6 (by omega) (by omega), bt_extract s i 9 7 (by omega) (by omega), bt_extract s i 9 8 (by omega) (by omega)]
  rfl

theorem blk_cell {w : World} {b t : Nat} {cur : Array Value} (h : w.heap[b]? = some (.cells cur t (0, 0))) (j : Nat) : w.cell? ⟨b, j, none⟩ = cur[j]? := cell_of_row w b j cur t (0, 0) h
theorem blk_free {w : World} {b t : Nat} {cur : Array Value} (h : w.heap[b]? = some (.cells cur t (0, 0))) (j : Nat) : w.frozen? ⟨b, j, none⟩ = false := by simp [World.frozen?, h]
theorem blk_lt {w : World} {b : Nat} {o : Obj} (h : w.heap[b]? = some o) : b < w.heap.size := (Array.getElem?_eq_some_iff.1 h).1
theorem blk_below {w w' : World} {b : Nat} {o : Obj} (h : w.heap[b]? = some o) (hb : Below w.heap.size w w') : w'.heap[b]? = some o := by rw [hb.block b (blk_lt h)]; exact h
theorem blk_alloc {w : World} {b : Nat} {o o' : Obj} (h : w.heap[b]? = some o) : (w.alloc o').heap[b]? = some o := by rw [Below.heap_alloc _ _ _ (blk_lt h)]; exact h
theorem blk_new (w : World) (o : Obj) : (w.alloc o).heap[w.heap.size]? = some o := heap_alloc_new w o
theorem blk_grown {w w' : World} {b : Nat} {o : Obj} {row : Option Nat} (h : w.heap[b]? = some o) (hg : w.grownBy w' row) (hr : some b ≠ row) : w'.heap[b]? = some o := by rw [hg.block b (blk_lt h) hr]; exact h
theorem ownsRow_base {w : World} {B e s : Nat} {v : Value} {n : Nat} {xs : List Value} (h : w.ownsRow B e s v n xs) : w.ownsRow 0 e s v n xs := by
  refine ⟨h.1, ?_⟩
  rcases h.2 with hn | ⟨g, cap, cur, hv, _, r⟩
  · exact .inl hn
  · exact .inr ⟨g, cap, cur, hv, Nat.zero_le _, r⟩
theorem ownsRow_bel {w w' : World} {B e s : Nat} {v : Value} {n : Nat} {xs : List Value} (h : w.ownsRow B e s v n xs) (hb : Below w.heap.size w w') : w'.ownsRow B e s v n xs := by
  refine ⟨h.1, ?_⟩
  rcases h.2 with hn | ⟨g, cap, cur, rfl, h0, hg, r⟩
  · exact .inl hn
  · exact .inr ⟨g, cap, cur, rfl, h0, by rw [hb.block g (Array.getElem?_eq_some_iff.1 hg).1]; exact hg, r⟩

theorem Try.infoSig : (Try.prog.info? 117).map (fun i => (i.zero, i.size, i.bytes)) = some (some (.agg #[.int .i64 0, .int .u8 0, .int .i64 0, .int .i64 0, .int .u8 0, .int .u8 0, .int .u8 0]), 7, 40) := by kernel_rfl

theorem ownsRow_form {w : World} {B e s : Nat} {v : Value} {n : Nat} {xs : List Value} (h : w.ownsRow B e s v n xs) : ∃ a cap, v = .slice a n cap := by
  rcases h.2 with ⟨rfl, rfl⟩ | ⟨g, cap, cur, rfl, _⟩
  · exact ⟨_, _, rfl⟩
  · exact ⟨_, _, rfl⟩

theorem new_cells {w : World} {b t : Nat} {l : List Value} (h : w.heap[b]? = some (.cells l.toArray t (0, 0))) : ∀ j u, l[j]? = some u → w.cell? ((⟨b, 0, none⟩ : Addr).add j) = some u := by
  intro j u hj
  have : (⟨b, 0, none⟩ : Addr).add j = ⟨b, j, none⟩ := by unfold Addr.add; split <;> simp_all
  rw [this, blk_cell h]
  simpa using hj

theorem new_two (w : World) (o1 o : Obj) : ((w.alloc o1).alloc o).heap[w.heap.size + 1]? = some o := by
  have := blk_new (w.alloc o1) o
  rw [World.size_alloc] at this
  exact this
theorem blk_set {w : World} {b t : Nat} {cur : Array Value} (h : w.heap[b]? = some (.cells cur t (0, 0))) (j : Nat) (u : Value) : (w.setCell ⟨b, j, none⟩ u).heap[b]? = some (.cells (cur.setIfInBounds j u) t (0, 0)) := by
  have hlt := lt_of_block h
  have h' : w.heap[b] = .cells cur t (0, 0) := by simpa [Array.getElem?_eq_getElem hlt] using h
  show (w.heap.modify b _)[b]? = _
  rw [Array.getElem?_eq_getElem (by simpa using hlt), Array.getElem_modify_self, h']
  rfl
theorem blk_set_other {w : World} {b c j : Nat} {o : Obj} (u : Value) (h : w.heap[b]? = some o) (hne : b ≠ c) : (w.setCell ⟨c, j, none⟩ u).heap[b]? = some o := by
  rw [Below.heap_setCell _ _ _ _ hne]; exact h

/-- What a reading of the message at i answers: the place where it cannot go on, or the message. -/
def MsgOut (s : ByteArray) (i : Nat) (e : Ending) (w' : World) : Prop :=
  match pMsg s i with
  | .inl p => e = .returned (.tuple #[.agg #[.int .i64 0, .int .i64 0, .int .i64 0, .slice none 0 0], .bool false, .int .i64 p])
  | .inr (m, q) => ∃ sv, e = .returned (.tuple #[.agg #[.int .i64 m.pl, .int .i64 (idNum m.id), .int .i64 m.sz, sv], .bool true, .int .i64 q]) ∧ SigsAt w' sv m.sigs

theorem MsgOut_bad {s : ByteArray} {i p : Nat} {w' : World} {q : Int} (h : pMsg s i = .inl p) (hq : q = p) : MsgOut s i (.returned (.tuple #[.agg #[.int .i64 0, .int .i64 0, .int .i64 0, .slice none 0 0], .bool false, .int .i64 q])) w' := by
  unfold MsgOut; rw [h, hq]
theorem MsgOut_good {s : ByteArray} {i q : Nat} {l : List Sg} {w' : World} {sv : Value} {idn sz : Int} (h : pMsg s i = .inr (mkMsg s i l, q)) (hid : idn = idNum (s.extract i (i + 3))) (hsz : sz = bt s (i + 3) - 48) (hs : SigsAt w' sv l) :
    MsgOut s i (.returned (.tuple #[.agg #[.int .i64 i, .int .i64 idn, .int .i64 sz, sv], .bool true, .int .i64 q])) w' := by
  unfold MsgOut; rw [h, hid, hsz]; exact ⟨sv, rfl, hs⟩
theorem pMsg_sigs {s : ByteArray} {i : Nat} (hn : ¬ nHead s i < 4) : pMsg s i = match pSigs s 8 (i + 4) with | .inl p => .inl p | .inr (l, e) => .inr (mkMsg s i l, e) := by
  rw [pMsg, if_neg hn]
  rcases pSigs s 8 (i + 4) with p | ⟨l, e⟩ <;> rfl

theorem set4_owns {wr : World} {B e s : Nat} {v : Value} {n : Nat} {xs : List Value} (h : wr.ownsRow (B + 2) e s v n xs) (u0 u1 u2 u3 : Value) :
    ((((wr.setCell ⟨B, 0, none⟩ u0).setCell ⟨B, 1, none⟩ u1).setCell ⟨B, 2, none⟩ u2).setCell ⟨B, 3, none⟩ u3).ownsRow 0 e s v n xs :=
  ownsRow_base (ownsRow_setCell_below (ownsRow_setCell_below (ownsRow_setCell_below (ownsRow_setCell_below h (a := ⟨B, 0, none⟩) (by simp) u0) (a := ⟨B, 1, none⟩) (by simp) u1) (a := ⟨B, 2, none⟩) (by simp) u2) (a := ⟨B, 3, none⟩) (by simp) u3)
theorem set4_below {w wr : World} (h : Below w.heap.size w wr) (u0 u1 u2 u3 : Value) :
    Below w.heap.size w ((((wr.setCell ⟨w.heap.size, 0, none⟩ u0).setCell ⟨w.heap.size, 1, none⟩ u1).setCell ⟨w.heap.size, 2, none⟩ u2).setCell ⟨w.heap.size, 3, none⟩ u3) :=
  (((h.setCell (p := ⟨w.heap.size, 0, none⟩) (Nat.le_refl _) u0).setCell (p := ⟨w.heap.size, 1, none⟩) (Nat.le_refl _) u1).setCell (p := ⟨w.heap.size, 2, none⟩) (Nat.le_refl _) u2).setCell (p := ⟨w.heap.size, 3, none⟩) (Nat.le_refl _) u3

set_option maxRecDepth 100000 in
set_option maxHeartbeats 2000000 in
theorem readMessage_yes (s : ByteArray) (i : Nat) (w : World) (hs : s.size ≤ 320) (hn : ¬ nHead s i < 4) :
    Calls Try.prog 97 #[.string s, .int .i64 i] w fun e w' => MsgOut s i e w' ∧ Below w.heap.size w w' := by
  obtain ⟨i0, hinf, hz0, hz1, hz2⟩ := info_parts Try.infoSig
  have hall := nHead_full hn
  have h3 := (hall 3 (by omega)).1
  obtain ⟨n4, HN4⟩ : ∃ n, Hid (n = nHead s i) := ⟨_, hide rfl⟩
  have hn' : decide ((n4 : Int) < 4) = false := by rw [← unhide HN4] at hn; simp; omega
  have hlo := bt_lo s (i + 3)
  have hhi := bt_hi s (i + 3)
  rw [← bt_of h3] at hlo hhi
  obtain ⟨sz, HSZ⟩ : ∃ z : Int, Hid (z = worth (s[i + 3].toNat : Int)) := ⟨_, hide rfl⟩
  obtain ⟨idn, HID⟩ : ∃ z : Int, Hid (z = idNum (s.extract i (i + 3))) := ⟨_, hide rfl⟩
  have HN := hide hn
  have HALL := hide hall
  have HINF := hide hinf
  have HZ0 := hide hz0
  have HZ1 := hide hz1
  have HZ2 := hide hz2
  clear hn hall hinf hz0 hz1 hz2
  go_enter Try.func97, Try.ntmps97
  go_wp2_with fail
  refine (rightHead_any s i _ hs (by omega)).mono ?_
  rintro e w1 ⟨rfl, rfl⟩
  rw [← unhide HN4]
  go_wp2_with fail
  refine (idNumber_any _ _ (by rw [ByteArray.size_extract]; unfold maxLen; omega)).mono ?_
  rintro e w1 ⟨rfl, rfl⟩
  rw [← unhide HID]
  go_wp2_with fail
  refine (digitWorth_any _ _ hlo hhi).mono ?_
  rintro e w1 ⟨rfl, rfl⟩
  rw [← unhide HSZ]
  go_wp2
  clear hn' hlo hhi
  go_loopw [1, 7, 10] (fun a _ _ wr => ∃ (p : Nat) (acc : List Sg) (sv : Value), a = .int .i64 p ∧ p ≤ s.size ∧ acc.length ≤ 8 ∧ wr.heap[w.heap.size]? = some (.cells #[.int .i64 0, .int .i64 0, .int .i64 0, .slice none 0 0] 82 (0, 0)) ∧
      wr.heap[w.heap.size + 1]? = some (.cells #[.int .i64 i, .int .i64 idn, .int .i64 sz, sv] 82 (0, 0)) ∧ wr.ownsRow (w.heap.size + 2) 117 7 sv acc.length (acc.flatMap Sg.cells) ∧
      Below w.heap.size w wr ∧ glue acc (pSigs s (8 - acc.length) p) = pSigs s 8 (i + 4)) (fun a _ _ _ => s.size + 10 - (intOf a).toNat)
  case atStart => exact ⟨i + 4, [], .slice none 0 0, by simp, by omega, by simp, blk_alloc (blk_new _ _), new_two _ _ _, World.ownsRow_nil _ _ _ _, ((Below.refl _ _).alloc (Nat.le_refl _) _).alloc (by simp) _, glue_nil _⟩
  case round =>
    obtain ⟨p, acc, sv, rfl, hp, hacc, hB0, hB1, hown, hbel, hgl⟩ := hrel
    obtain ⟨sa, cap, rfl⟩ := ownsRow_form hown
    have HB0 := hide hB0
    have HB1 := hide hB1
    have HOWN := hide hown
    have HBEL := hide hbel
    have HGL := hide hgl
    clear hB0 hB1 hown hbel hgl
    have hc3 : wr.cell? ⟨w.heap.size + 1, 3, none⟩ = some (.slice sa acc.length cap) := blk_cell (unhide HB1) 3
    by_cases hgo : acc.length < 8 ∧ p < s.size ∧ bt s p = 44
    · obtain ⟨ha8, hps, h44⟩ := hgo
      have e44 : ((s[p].toNat : Int) == 44) = true := by rw [bt_of hps, h44]; rfl
      have H44 := hide h44
      clear h44
      by_cases hns : nSig s p < 9
      · obtain ⟨n9, HN9⟩ : ∃ n, Hid (n = nSig s p) := ⟨_, hide rfl⟩
        have hns' : (n9 : Int) < 9 := by rw [← unhide HN9] at hns; omega
        have HFIN := hide (show pMsg s i = .inl (p + n9) by rw [pMsg_sigs (unhide HN), ← unhide HGL, glue_bad (by omega) ⟨hps, unhide H44⟩ hns, unhide HN9])
        clear hns
        have f0 : wr.frozen? ⟨w.heap.size, 0, none⟩ = false := blk_free (unhide HB0) 0
        have f1 : wr.frozen? ⟨w.heap.size, 1, none⟩ = false := blk_free (unhide HB0) 1
        have f2 : wr.frozen? ⟨w.heap.size, 2, none⟩ = false := blk_free (unhide HB0) 2
        have f3 : wr.frozen? ⟨w.heap.size, 3, none⟩ = false := blk_free (unhide HB0) 3
        have b0 : wr.cell? ⟨w.heap.size, 0, none⟩ = some (.int .i64 0) := blk_cell (unhide HB0) 0
        have b1 : wr.cell? ⟨w.heap.size, 1, none⟩ = some (.int .i64 0) := blk_cell (unhide HB0) 1
        have b2 : wr.cell? ⟨w.heap.size, 2, none⟩ = some (.int .i64 0) := blk_cell (unhide HB0) 2
        have b3 : wr.cell? ⟨w.heap.size, 3, none⟩ = some (.slice none 0 0) := blk_cell (unhide HB0) 3
        go_wp2_with fail
        refine (rightSig_any s p _ hs (by omega)).mono ?_
        rintro e w1 ⟨rfl, rfl⟩
        rw [← unhide HN9]
        go_wp2
        exact bodyPost_ret (v := .tuple #[.agg #[.int .i64 0, .int .i64 0, .int .i64 0, .slice none 0 0], .bool false, .int .i64 (p + n9)]) (by simp [results, Try.results97, go_sem, b0, b1, b2, b3]) rfl ⟨MsgOut_bad (unhide HFIN) (by simp), set4_below (unhide HBEL) _ _ _ _⟩
      · have HNS := hide hns
        have h8 := (nSig_full hns 8 (by omega)).1
        obtain ⟨n9, HN9⟩ : ∃ n, Hid (n = nSig s p) := ⟨_, hide rfl⟩
        have hns' : decide ((n9 : Int) < 9) = false := by rw [← unhide HN9] at hns; simp; omega
        clear hns
        go_wp2_with fail
        refine (rightSig_any s p _ hs (by omega)).mono ?_
        rintro e w1 ⟨rfl, rfl⟩
        rw [← unhide HN9]
        go_wp2_with fail
        refine (rdSignal_at s p _ (unhide HNS)).mono ?_
        rintro e w2 ⟨rfl, hb2⟩
        have HB0' := hide (blk_below (unhide HB0) hb2)
        have HB1' := hide (blk_below (unhide HB1) hb2)
        have HOWN' := hide (ownsRow_bel (unhide HOWN) hb2)
        have HBEL' := hide ((unhide HBEL).trans (hb2.mono (unhide HBEL).size))
        clear hc3 hb2
        have hc3 : w2.cell? ⟨w.heap.size + 1, 3, none⟩ = some (.slice sa acc.length cap) := blk_cell (unhide HB1') 3
        have hlt1 : w.heap.size + 1 < w2.heap.size := blk_lt (unhide HB1')
        have hf3 : w2.frozen? ⟨w.heap.size + 1, 3, none⟩ = false := blk_free (unhide HB1') 3
        go_wp2_with (at_builtin; refine wpList_append_own _ rfl _ _ 80 rfl (w.heap.size + 2) 117 i0 _ 7 40 Try.underlying80 (unhide HINF) (unhide HZ0) (unhide HZ1) (unhide HZ2) rfl (by decide) _ _ _ rfl (((unhide HOWN').alloc _).alloc _) ⟨w2.heap.size + 1, 0, none⟩ 1 1 (mkSig s p).cells rfl rfl ?c1 ?c2 ?c3 ?c4 ?c5 ?_)
        case c1 => exact new_cells (new_two _ _ _)
        case c2 => simp [Sg.cells, Value.oneCell']
        case c3 => unfold maxLen; omega
        case c4 => omega
        case c5 => simp; omega
        intro v3 w3 hown3 hgrow _
        obtain ⟨a3, cap3, rfl⟩ := ownsRow_form hown3
        have hne : ∀ b, b < w.heap.size + 2 → some b ≠ (Value.slice sa acc.length cap).ownBlock := by
          intro b hb e
          have := (unhide HOWN').lt b e.symm
          omega
        have HB0'' := hide (blk_grown (blk_alloc (blk_alloc (unhide HB0'))) hgrow (hne _ (by omega)))
        have HB1'' := hide (blk_grown (blk_alloc (blk_alloc (unhide HB1'))) hgrow (hne _ (by omega)))
        have HBEL'' := hide (Below.grown (((unhide HBEL').alloc (by have := (unhide HBEL').size; omega) _).alloc (by have := (unhide HBEL').size; simp; omega) _) hgrow (by have := (unhide HBEL').size; simp; omega) (fun k hk => by have := (unhide HOWN').lt k hk; omega))
        have HOWN3 := hide hown3
        clear hown3 hgrow hne hc3 hf3 hlt1
        have hc3 : w3.cell? ⟨w.heap.size + 1, 3, none⟩ = some (.slice sa acc.length cap) := blk_cell (unhide HB1'') 3
        have hf3 : w3.frozen? ⟨w.heap.size + 1, 3, none⟩ = false := blk_free (unhide HB1'') 3
        go_wp2
        go_roundw
        case rel =>
          refine ⟨p + 9, acc ++ [mkSig s p], .slice a3 (acc.length + 1) cap3, by go_num, by omega, by simp; omega, blk_set_other _ (unhide HB0'') (by omega), blk_set (unhide HB1'') 3 _, ?_, (unhide HBEL'').setCell (by simp) _, ?_⟩
          · have := ownsRow_setCell_below (unhide HOWN3) (a := ⟨w.heap.size + 1, 3, none⟩) (by simp) (.slice a3 (acc.length + 1) cap3)
            simpa [List.flatMap_append] using this
          · rw [← unhide HGL, glue_step (by omega) ⟨hps, unhide H44⟩ (unhide HNS), List.length_append]
            congr 2
        case measure => simp [intOf]; omega
    · have hend : glue acc (pSigs s (8 - acc.length) p) = .inr (acc, p) := glue_stop (by
        by_cases h1 : acc.length < 8
        · exact .inr (fun h => hgo ⟨h1, h⟩)
        · exact .inl (by omega))
      have hfin : pMsg s i = .inr (mkMsg s i acc, p) := by rw [pMsg_sigs (unhide HN), ← unhide HGL, hend]
      have HFIN := hide hfin
      clear hend hfin
      have hz : sz = bt s (i + 3) - 48 := by
        have := (unhide HALL 3 (by omega)).2
        simp [headB] at this
        rw [unhide HSZ, bt_of h3]; exact dig_worth (by omega) (by omega)
      have HZ := hide hz
      clear hz
      have hways : (8 : Int) ≤ (acc.length : Int) ∨ ((acc.length : Int) < 8 ∧ (s.size : Int) ≤ (p : Int)) ∨ ((acc.length : Int) < 8 ∧ p < s.size ∧ bt s p ≠ 44) := by
        by_cases h1 : acc.length < 8
        · by_cases h2 : p < s.size
          · exact .inr (.inr ⟨by omega, h2, fun h => hgo ⟨h1, h2, h⟩⟩)
          · exact .inr (.inl ⟨by omega, by omega⟩)
        · exact .inl (by omega)
      clear hgo
      have d0 : wr.cell? ⟨w.heap.size + 1, 0, none⟩ = some (.int .i64 i) := blk_cell (unhide HB1) 0
      have d1 : wr.cell? ⟨w.heap.size + 1, 1, none⟩ = some (.int .i64 idn) := blk_cell (unhide HB1) 1
      have d2 : wr.cell? ⟨w.heap.size + 1, 2, none⟩ = some (.int .i64 sz) := blk_cell (unhide HB1) 2
      have f0 : wr.frozen? ⟨w.heap.size, 0, none⟩ = false := blk_free (unhide HB0) 0
      have f1 : wr.frozen? ⟨w.heap.size, 1, none⟩ = false := blk_free (unhide HB0) 1
      have f2 : wr.frozen? ⟨w.heap.size, 2, none⟩ = false := blk_free (unhide HB0) 2
      have f3 : wr.frozen? ⟨w.heap.size, 3, none⟩ = false := blk_free (unhide HB0) 3
      have b0 : wr.cell? ⟨w.heap.size, 0, none⟩ = some (.int .i64 0) := blk_cell (unhide HB0) 0
      have b1 : wr.cell? ⟨w.heap.size, 1, none⟩ = some (.int .i64 0) := blk_cell (unhide HB0) 1
      have b2 : wr.cell? ⟨w.heap.size, 2, none⟩ = some (.int .i64 0) := blk_cell (unhide HB0) 2
      have b3 : wr.cell? ⟨w.heap.size, 3, none⟩ = some (.slice none 0 0) := blk_cell (unhide HB0) 3
      rcases hways with hq | ⟨hq, hq2⟩ | ⟨hq, hq2, hq3⟩
      · go_wp2
        exact bodyPost_ret (v := .tuple #[.agg #[.int .i64 i, .int .i64 idn, .int .i64 sz, .slice sa acc.length cap], .bool true, .int .i64 p]) (by simp [results, Try.results97, go_sem, b0, b1, b2, b3]) rfl ⟨MsgOut_good (unhide HFIN) (unhide HID) (unhide HZ) (set4_owns (unhide HOWN) _ _ _ _), set4_below (unhide HBEL) _ _ _ _⟩
      · go_wp2
        exact bodyPost_ret (v := .tuple #[.agg #[.int .i64 i, .int .i64 idn, .int .i64 sz, .slice sa acc.length cap], .bool true, .int .i64 p]) (by simp [results, Try.results97, go_sem, b0, b1, b2, b3]) rfl ⟨MsgOut_good (unhide HFIN) (unhide HID) (unhide HZ) (set4_owns (unhide HOWN) _ _ _ _), set4_below (unhide HBEL) _ _ _ _⟩
      · have hq4 : ((s[p].toNat : Int) == 44) = false := by rw [bt_of hq2]; simpa using hq3
        clear hq3
        go_wp2
        exact bodyPost_ret (v := .tuple #[.agg #[.int .i64 i, .int .i64 idn, .int .i64 sz, .slice sa acc.length cap], .bool true, .int .i64 p]) (by simp [results, Try.results97, go_sem, b0, b1, b2, b3]) rfl ⟨MsgOut_good (unhide HFIN) (unhide HID) (unhide HZ) (set4_owns (unhide HOWN) _ _ _ _), set4_below (unhide HBEL) _ _ _ _⟩

set_option maxHeartbeats 400000 in
theorem readMessage_no (s : ByteArray) (i : Nat) (w : World) (hs : s.size ≤ 320) (hi : i ≤ s.size + 1) (hn : nHead s i < 4) :
    Calls Try.prog 97 #[.string s, .int .i64 i] w fun e w' => MsgOut s i e w' ∧ Below w.heap.size w w' := by
  obtain ⟨n4, HN4⟩ : ∃ n, Hid (n = nHead s i) := ⟨_, hide rfl⟩
  have hn' : (n4 : Int) < 4 := by rw [← unhide HN4] at hn; omega
  have HFIN := hide (show pMsg s i = .inl (i + n4) by rw [pMsg, if_pos hn, unhide HN4])
  clear hn
  go_enter Try.func97, Try.ntmps97
  go_wp2_with fail
  refine (rightHead_any s i _ hs (by omega)).mono ?_
  rintro e w1 ⟨rfl, rfl⟩
  rw [← unhide HN4]
  go_wp2
  exact bodyPost_ret (v := .tuple #[.agg #[.int .i64 0, .int .i64 0, .int .i64 0, .slice none 0 0], .bool false, .int .i64 (i + n4)]) (by simp [results, Try.results97, go_sem]) rfl ⟨MsgOut_bad (unhide HFIN) (by simp), (Below.refl _ _).alloc (Nat.le_refl _) _⟩

theorem readMessage_any (s : ByteArray) (i : Nat) (w : World) (hs : s.size ≤ 320) (hi : i ≤ s.size + 1) :
    Calls Try.prog 97 #[.string s, .int .i64 i] w fun e w' => MsgOut s i e w' ∧ Below w.heap.size w w' := by
  by_cases hn : nHead s i < 4
  · exact readMessage_no s i w hs hi hn
  · exact readMessage_yes s i w hs hn

end Go.Proofs.Ytoihlnjcgopdlab

namespace Go.Proofs.Ytoihlnjcgopdlab
open Go.RowKit

theorem Try.infoRSig : (Try.prog.info? 78).map (fun i => (i.zero, i.size, i.bytes)) = some (some (.agg #[.int .u8 0, .int .i64 0, .int .i64 0, .bool false, .bool false, .int .u8 0, .int .i64 0]), 7, 40) := by kernel_rfl

def RMsgOut (s : ByteArray) (i : Nat) (e : Ending) (w' : World) : Prop :=
  match pMsg s i with
  | .inl p => e = .returned (.tuple #[.agg #[.string { data := #[] }, .int .i64 0, .slice none 0 0, .int .i64 0], .int .i64 p, .bool false])
  | .inr (m, q) => ∃ sv, e = .returned (.tuple #[.agg #[.string m.id, .int .i64 m.sz, sv, .int .i64 m.pl], .int .i64 q, .bool true]) ∧ RSigsAt w' sv m.sigs

theorem RMsgOut_bad {s : ByteArray} {i p : Nat} {w' : World} {q : Int} (h : pMsg s i = .inl p) (hq : q = p) : RMsgOut s i (.returned (.tuple #[.agg #[.string { data := #[] }, .int .i64 0, .slice none 0 0, .int .i64 0], .int .i64 q, .bool false])) w' := by
  unfold RMsgOut; rw [h, hq]
theorem RMsgOut_good {s : ByteArray} {i q : Nat} {l : List Sg} {w' : World} {sv : Value} {sz : Int} (h : pMsg s i = .inr (mkMsg s i l, q)) (hsz : sz = bt s (i + 3) - 48) (hs : RSigsAt w' sv l) :
    RMsgOut s i (.returned (.tuple #[.agg #[.string (s.extract i (i + 3)), .int .i64 sz, sv, .int .i64 i], .int .i64 q, .bool true])) w' := by
  unfold RMsgOut; rw [h, hsz]; exact ⟨sv, rfl, hs⟩

theorem rSigOut_no {s : ByteArray} {i n : Nat} (hn : n = nSig s i) (h : nSig s i < 9) : rSigOut s i = .tuple #[.agg #[.int .u8 0, .int .i64 0, .int .i64 0, .bool false, .bool false, .int .u8 0, .int .i64 0], .int .i64 (i + n), .bool false] := by
  rw [rSigOut, if_pos h, ← hn]; simp [rZeroSig]
theorem rSigOut_yes {s : ByteArray} {i : Nat} (h : ¬ nSig s i < 9) : rSigOut s i = .tuple #[.agg #[.int .u8 (mkSig s i).nm, .int .i64 (mkSig s i).st, .int .i64 (mkSig s i).ln, .bool (decide ((mkSig s i).od = 62)), .bool (decide ((mkSig s i).kd = 115)), .int .u8 (mkSig s i).rl, .int .i64 (mkSig s i).pl], .int .i64 (i + 9), .bool true] := by
  rw [rSigOut, if_neg h]; simp

set_option maxRecDepth 100000 in
set_option maxHeartbeats 4000000 in
theorem rMessage_any (s : ByteArray) (i : Nat) (w : World) (hs : s.size ≤ 140737488351232) (hi : i ≤ s.size + 1) :
    Calls Try.prog 74 #[.string s, .int .i64 i] w fun e w' => RMsgOut s i e w' ∧ Below w.heap.size w w' := by
  obtain ⟨i0, hinf, hz0, hz1, hz2⟩ := info_parts Try.infoRSig
  have HINF := hide hinf
  have HZ0 := hide hz0
  have HZ1 := hide hz1
  have HZ2 := hide hz2
  clear hinf hz0 hz1 hz2
  go_enter Try.func74, Try.ntmps74
  go_wp2
  go_loop [7, 8] (fun r _ => ∃ k : Nat, k ≤ 4 ∧ r = .int .i64 k ∧ ∀ j, j < k → (!headOk s i j) = false) (fun r _ => 4 - (intOf r).toNat)
  case atStart => exact ⟨0, by omega, rfl, by intro j hj; omega⟩
  case round =>
    obtain ⟨k, hk, rfl, hno⟩ := hrel
    have HN := hide hno
    clear hno
    by_cases hlt : k < 4
    · by_cases h2 : i + k < s.size
      · have e := bt_of h2
        cases hb : headB k (bt s (i + k)) with
        | false =>
          have hv : headB k (s[i + k].toNat : Int) = false := by rw [e]; exact hb
          have HK := hide (show (!headOk s i k) = true by simp [headOk, hb])
          clear e hb
          go_wp2_with (go_at_call 64; refine (rHeaded_any _ _ _ (by omega) (by omega)).mono ?_; rintro e w' ⟨rfl, rfl⟩)
          have hN : nHead s i = k := firstIx_is (unhide HN) hlt (unhide HK)
          exact bodyPost_ret (v := .tuple #[.agg #[.string { data := #[] }, .int .i64 0, .slice none 0 0, .int .i64 0], .int .i64 (i + k), .bool false]) (by simp [results, Try.results74, go_sem]) rfl ⟨RMsgOut_bad (p := i + k) (by rw [pMsg, hN, if_pos hlt]) (by simp), (Below.refl _ _).alloc (Nat.le_refl _) _⟩
        | true =>
          have hv : headB k (s[i + k].toNat : Int) = true := by rw [e]; exact hb
          have HK := hide (show (!headOk s i k) = false by simp [headOk, hb, h2])
          clear e hb
          go_wp2_with (go_at_call 64; refine (rHeaded_any _ _ _ (by omega) (by omega)).mono ?_; rintro e w' ⟨rfl, rfl⟩)
          go_round
          case rel => exact ⟨k + 1, by omega, by go_num, fun j hj => by
            by_cases e : j = k
            · subst e; exact unhide HK
            · exact unhide HN j (by omega)⟩
          case measure => simp [intOf]; omega
      · have HK := hide (show (!headOk s i k) = true by simp [headOk, h2])
        go_wp2
        have hN : nHead s i = k := firstIx_is (unhide HN) hlt (unhide HK)
        exact bodyPost_ret (v := .tuple #[.agg #[.string { data := #[] }, .int .i64 0, .slice none 0 0, .int .i64 0], .int .i64 (i + k), .bool false]) (by simp [results, Try.results74, go_sem]) rfl ⟨RMsgOut_bad (p := i + k) (by rw [pMsg, hN, if_pos hlt]) (by simp), (Below.refl _ _).alloc (Nat.le_refl _) _⟩
    · have hk4 : k = 4 := by omega
      subst hk4
      have hn : ¬ nHead s i < 4 := by rw [nHead, firstIx_none (unhide HN)]; omega
      have hall := nHead_full hn
      have h3 := (hall 3 (by omega)).1
      have h3b := (hall 3 (by omega)).2
      rw [← bt_of h3] at h3b
      simp [headB] at h3b
      obtain ⟨h3c, h3d⟩ := h3b
      have y0 : (0 : Int) ≤ (i : Int) := by omega
      have y3 : (0 : Int) ≤ (i : Int) + 3 := by omega
      have z3 : (i : Int) + 3 < (s.size : Int) := by omega
      have z4 : (i : Int) + 3 ≤ (s.size : Int) := by omega
      have x3 : IntKind.i64.wrap ((i : Int) + 3) = (i : Int) + 3 := by rw [IntKind.wrap_i64]; omega
      have hu : IntKind.u8.wrap ((s[i + 3].toNat : Int) - 48) = (s[i + 3].toNat : Int) - 48 := by rw [IntKind.wrap_u8]; omega
      obtain ⟨sz, HSZ⟩ : ∃ z : Int, Hid (z = (s[i + 3].toNat : Int) - 48) := ⟨_, hide rfl⟩
      have hv : IntKind.i64.wrap ((s[i + 3].toNat : Int) - 48) = sz := by rw [unhide HSZ, IntKind.wrap_i64]; omega
      have z5 : (i : Int) ≤ (i : Int) + 3 := by omega
      have z6 : ((i : Int) + 3).toNat = i + 3 := by omega
      have HNH := hide hn
      have HALL := hide hall
      clear hn hall
      go_wp2
      refine wp_region_noPanic ?_
      refine wp_region_held_drew (S := fun _ => True) (by kernel_rfl) trivial (fun hHeld => ?_)
      refine wpAnyH_take (i := 0) (v := ?_) (at_list rfl) (by kernel_rfl) (by kernel_rfl) (by kernel_rfl) (fun _ _ _ h => h) (Or.inl ⟨by rfl, ?_⟩) (by assumption) ?_
      rotate_left
      · intro w hSw; (try dsimp only at hSw); first | (go_simp; done) | (go_simp; with_reducible rfl)
      try simp only [Act.put]
      try simp only [List.setIfInBounds_toArray]
      try simp only [List.set_cons_succ]
      try simp only [List.set_cons_zero]
      refine wpAnyH_take (i := 1) (v := ?_) (at_list rfl) (by kernel_rfl) (by kernel_rfl) (by kernel_rfl) (fun _ _ _ h => h) (Or.inl ⟨by rfl, ?_⟩) (by assumption) ?_
      rotate_left
      · intro w hSw; (try dsimp only at hSw); first | (go_simp; done) | (go_simp; with_reducible rfl)
      try simp only [Act.put]
      try simp only [List.setIfInBounds_toArray]
      try simp only [List.set_cons_succ]
      try simp only [List.set_cons_zero]
      refine wpAnyH_take (i := 2) (v := ?_) (at_list rfl) (by kernel_rfl) (by kernel_rfl) (by kernel_rfl) (fun _ _ _ h => h) (Or.inl ⟨by rfl, ?_⟩) (by assumption) ?_
      rotate_left
      · intro w hSw; (try dsimp only at hSw); first | (go_simp; done) | (go_simp; with_reducible rfl)
      try simp only [Act.put]
      try simp only [List.setIfInBounds_toArray]
      try simp only [List.set_cons_succ]
      try simp only [List.set_cons_zero]
      refine wpAnyH_take (i := 3) (v := ?_) (at_list rfl) (by kernel_rfl) (by kernel_rfl) (by kernel_rfl) (fun _ _ _ h => h) (Or.inl ⟨by rfl, ?_⟩) (by assumption) ?_
      rotate_left
      · intro w hSw; (try dsimp only at hSw); first | (go_simp; done) | (go_simp; with_reducible rfl)
      try simp only [Act.put]
      try simp only [List.setIfInBounds_toArray]
      try simp only [List.set_cons_succ]
      try simp only [List.set_cons_zero]
      refine wpAnyH_take (i := 4) (v := ?_) (at_list rfl) (by kernel_rfl) (by kernel_rfl) (by kernel_rfl) (fun _ _ _ h => h) (Or.inl ⟨by rfl, ?_⟩) (by assumption) ?_
      rotate_left
      · intro w hSw; (try dsimp only at hSw); first | (go_simp; done) | (go_simp; with_reducible rfl)
      try simp only [Act.put]
      try simp only [List.setIfInBounds_toArray]
      try simp only [List.set_cons_succ]
      try simp only [List.set_cons_zero]
      refine wpAnyH_take (i := 5) (v := ?_) (at_list rfl) (by kernel_rfl) (by kernel_rfl) (by kernel_rfl) (fun _ _ _ h => h) (Or.inl ⟨by rfl, ?_⟩) (by assumption) ?_
      rotate_left
      · intro w hSw; (try dsimp only at hSw); first | (go_simp; done) | (go_simp; with_reducible rfl)
      try simp only [Act.put]
      try simp only [List.setIfInBounds_toArray]
      try simp only [List.set_cons_succ]
      try simp only [List.set_cons_zero]
      refine wpAnyH_take (i := 6) (v := ?_) (at_list rfl) (by kernel_rfl) (by kernel_rfl) (by kernel_rfl) (fun _ _ _ h => h) (Or.inl ⟨by rfl, ?_⟩) (by assumption) ?_
      rotate_left
      · intro w hSw; (try dsimp only at hSw); first | (go_simp; done) | (go_simp; with_reducible rfl)
      try simp only [Act.put]
      try simp only [List.setIfInBounds_toArray]
      try simp only [List.set_cons_succ]
      try simp only [List.set_cons_zero]
      refine wpAnyH_take (i := 7) (v := ?_) (at_list rfl) (by kernel_rfl) (by kernel_rfl) (by kernel_rfl) (fun _ _ _ h => h) (Or.inl ⟨by rfl, ?_⟩) (by assumption) ?_
      rotate_left
      · intro w hSw; (try dsimp only at hSw); first | (go_simp; done) | (go_simp; with_reducible rfl)
      try simp only [Act.put]
      try simp only [List.setIfInBounds_toArray]
      try simp only [List.set_cons_succ]
      try simp only [List.set_cons_zero]
      refine wpAnyH_take (i := 8) (v := ?_) (at_list rfl) (by kernel_rfl) (by kernel_rfl) (by kernel_rfl) (fun _ _ _ h => h) (Or.inl ⟨by rfl, ?_⟩) (by assumption) ?_
      rotate_left
      · intro w hSw; (try dsimp only at hSw); first | (go_simp; done) | (go_simp; with_reducible rfl)
      try simp only [Act.put]
      try simp only [List.setIfInBounds_toArray]
      try simp only [List.set_cons_succ]
      try simp only [List.set_cons_zero]
      refine wpAnyH_take (i := 9) (v := ?_) (at_list rfl) (by kernel_rfl) (by kernel_rfl) (by kernel_rfl) (fun _ _ _ h => h) (Or.inl ⟨by rfl, ?_⟩) (by assumption) ?_
      rotate_left
      · intro w hSw; (try dsimp only at hSw); first | (go_simp; done) | (go_simp; with_reducible rfl)
      try simp only [Act.put]
      try simp only [List.setIfInBounds_toArray]
      try simp only [List.set_cons_succ]
      try simp only [List.set_cons_zero]
      refine wpAnyH_take (i := 10) (v := ?_) (at_list rfl) (by kernel_rfl) (by kernel_rfl) (by kernel_rfl) (fun _ _ _ h => h) (Or.inl ⟨by rfl, ?_⟩) (by assumption) ?_
      rotate_left
      · intro w hSw; (try dsimp only at hSw); first | (go_simp; done) | (go_simp; with_reducible rfl)
      try simp only [Act.put]
      try simp only [List.setIfInBounds_toArray]
      try simp only [List.set_cons_succ]
      try simp only [List.set_cons_zero]
      refine wpAnyH_take (i := 11) (v := ?_) (at_list rfl) (by kernel_rfl) (by kernel_rfl) (by kernel_rfl) (fun _ _ _ h => h) (Or.inl ⟨by rfl, ?_⟩) (by assumption) ?_
      rotate_left
      · intro w hSw; (try dsimp only at hSw); first | (go_simp; done) | (go_simp; with_reducible rfl)
      try simp only [Act.put]
      try simp only [List.setIfInBounds_toArray]
      try simp only [List.set_cons_succ]
      try simp only [List.set_cons_zero]
      refine wpAnyH_take (i := 12) (v := ?_) (at_list rfl) (by kernel_rfl) (by kernel_rfl) (by kernel_rfl) (fun _ _ _ h => h) (Or.inl ⟨by rfl, ?_⟩) (by assumption) ?_
      rotate_left
      · intro w hSw; (try dsimp only at hSw); first | (go_simp; done) | (go_simp; with_reducible rfl)
      try simp only [Act.put]
      try simp only [List.setIfInBounds_toArray]
      try simp only [List.set_cons_succ]
      try simp only [List.set_cons_zero]
      refine wpAnyH_ready (rs := [13]) (by kernel_rfl) (by simp) ?_
      refine AllReadyH.cons (at_list rfl) (fun K hK => ?_) AllReadyH.nil
      go_simp
      refine hK.out _ _ (trivial) (fun hHeld => ?_)
      clear hK K
      try simp only [Act.put]
      try simp only [List.setIfInBounds_toArray]
      try simp only [List.set_cons_succ]
      try simp only [List.set_cons_zero]
      refine wpAnyH_ready (rs := [14]) (by kernel_rfl) (by simp) ?_
      refine AllReadyH.cons (at_list rfl) (fun K hK => ?_) AllReadyH.nil
      go_simp
      refine hK.out _ _ (trivial) (fun hHeld => ?_)
      clear hK K
      try simp only [Act.put]
      try simp only [List.setIfInBounds_toArray]
      try simp only [List.set_cons_succ]
      try simp only [List.set_cons_zero]
      refine wpAnyH_done (by kernel_rfl) ?_ _
      refine NoPanic.normal ?_
      clear x3 hu hv z5
      go_wp2
      go_loopw [1, 10, 11, 12] (fun a _ _ _ wr => ∃ (p : Nat) (acc : List Sg) (sv : Value), a = .int .i64 p ∧ p ≤ s.size ∧ acc.length ≤ 8 ∧ wr.heap[w.heap.size]? = some (.cells #[.string { data := #[] }, .int .i64 0, .slice none 0 0, .int .i64 0] 50 (0, 0)) ∧
          wr.heap[w.heap.size + 1]? = some (.cells #[.string (s.extract i (i + 3)), .int .i64 sz, sv, .int .i64 i] 50 (0, 0)) ∧ wr.ownsRow (w.heap.size + 2) 78 7 sv acc.length (acc.flatMap Sg.rcells) ∧
          Below w.heap.size w wr ∧ glue acc (pSigs s (8 - acc.length) p) = pSigs s 8 (i + 4)) (fun a _ _ _ _ => s.size + 10 - (intOf a).toNat)
      case atStart => exact ⟨i + 4, [], .slice none 0 0, by simp, by omega, by simp, by exact blk_alloc (blk_new _ _), by exact new_two _ _ _, World.ownsRow_nil _ _ _ _, (((Below.refl _ _).alloc (Nat.le_refl _) _).alloc (by simp) _).drew, glue_nil _⟩
      case round =>
        obtain ⟨p, acc, sv, rfl, hp, hacc, hB0, hB1, hown, hbel, hgl⟩ := hrel
        obtain ⟨sa, cap, rfl⟩ := ownsRow_form hown
        have HB0 := hide hB0
        have HB1 := hide hB1
        have HOWN := hide hown
        have HBEL := hide hbel
        have HGL := hide hgl
        clear hB0 hB1 hown hbel hgl
        have hc3 : wr.cell? ⟨w.heap.size + 1, 2, none⟩ = some (.slice sa acc.length cap) := blk_cell (unhide HB1) 2
        by_cases hgo : acc.length < 8 ∧ p < s.size ∧ bt s p = 44
        · obtain ⟨ha8, hps, h44⟩ := hgo
          have e44 : ((s[p].toNat : Int) == 44) = true := by rw [bt_of hps, h44]; rfl
          have H44 := hide h44
          clear h44
          by_cases hns : nSig s p < 9
          · obtain ⟨n9, HN9⟩ : ∃ n, Hid (n = nSig s p) := ⟨_, hide rfl⟩
            have hns' : (n9 : Int) < 9 := by rw [← unhide HN9] at hns; omega
            have HFIN := hide (show pMsg s i = .inl (p + n9) by rw [pMsg_sigs (unhide HNH), ← unhide HGL, glue_bad (by omega) ⟨hps, unhide H44⟩ hns, unhide HN9])
            have HSO := hide (rSigOut_no (unhide HN9) hns)
            clear hns
            go_wp2_with fail
            refine (rSignal_any s p _ hs (by omega)).mono ?_
            rintro e w2 ⟨rfl, hb2⟩
            rw [unhide HSO]
            have HB0' := hide (blk_below (unhide HB0) hb2)
            have HBEL' := hide ((unhide HBEL).trans (hb2.mono (unhide HBEL).size))
            clear hb2 hc3
            have f0 : w2.frozen? ⟨w.heap.size, 0, none⟩ = false := blk_free (unhide HB0') 0
            have f1 : w2.frozen? ⟨w.heap.size, 1, none⟩ = false := blk_free (unhide HB0') 1
            have f2 : w2.frozen? ⟨w.heap.size, 2, none⟩ = false := blk_free (unhide HB0') 2
            have f3 : w2.frozen? ⟨w.heap.size, 3, none⟩ = false := blk_free (unhide HB0') 3
            have b0 : w2.cell? ⟨w.heap.size, 0, none⟩ = some (.string { data := #[] }) := blk_cell (unhide HB0') 0
            have b1 : w2.cell? ⟨w.heap.size, 1, none⟩ = some (.int .i64 0) := blk_cell (unhide HB0') 1
            have b2 : w2.cell? ⟨w.heap.size, 2, none⟩ = some (.slice none 0 0) := blk_cell (unhide HB0') 2
            have b3 : w2.cell? ⟨w.heap.size, 3, none⟩ = some (.int .i64 0) := blk_cell (unhide HB0') 3
            have hlt1 : w.heap.size < w2.heap.size := blk_lt (unhide HB0')
            go_wp2
            exact bodyPost_ret (v := .tuple #[.agg #[.string { data := #[] }, .int .i64 0, .slice none 0 0, .int .i64 0], .int .i64 (p + n9), .bool false]) (by simp [results, Try.results74, go_sem, b0, b1, b2, b3, hlt1]) rfl ⟨RMsgOut_bad (unhide HFIN) (by simp), (set4_below (unhide HBEL') _ _ _ _).alloc (set4_below (unhide HBEL') _ _ _ _).size _⟩
          · have HNS := hide hns
            have h8 := (nSig_full hns 8 (by omega)).1
            clear hns
            go_wp2_with fail
            refine (rSignal_any s p _ hs (by omega)).mono ?_
            rintro e w2 ⟨rfl, hb2⟩
            rw [rSigOut_yes (unhide HNS)]
            have HB0' := hide (blk_below (unhide HB0) hb2)
            have HB1' := hide (blk_below (unhide HB1) hb2)
            have HOWN' := hide (ownsRow_bel (unhide HOWN) hb2)
            have HBEL' := hide ((unhide HBEL).trans (hb2.mono (unhide HBEL).size))
            clear hc3 hb2
            have hc3 : w2.cell? ⟨w.heap.size + 1, 2, none⟩ = some (.slice sa acc.length cap) := blk_cell (unhide HB1') 2
            have hlt1 : w.heap.size + 1 < w2.heap.size := blk_lt (unhide HB1')
            have hf3 : w2.frozen? ⟨w.heap.size + 1, 2, none⟩ = false := blk_free (unhide HB1') 2
            go_wp2_with (at_builtin; refine wpList_append_own _ rfl _ _ 48 rfl (w.heap.size + 2) 78 i0 _ 7 40 Try.underlying48 (unhide HINF) (unhide HZ0) (unhide HZ1) (unhide HZ2) rfl (by decide) _ _ _ rfl (((unhide HOWN').alloc _).alloc _) ⟨w2.heap.size + 1, 0, none⟩ 1 1 (mkSig s p).rcells rfl rfl ?c1 ?c2 ?c3 ?c4 ?c5 ?_)
            case c1 => exact new_cells (new_two _ _ _)
            case c2 => simp [Sg.rcells, Value.oneCell']
            case c3 => unfold maxLen; omega
            case c4 => omega
            case c5 => simp; omega
            intro v3 w3 hown3 hgrow _
            obtain ⟨a3, cap3, rfl⟩ := ownsRow_form hown3
            have hne : ∀ b, b < w.heap.size + 2 → some b ≠ (Value.slice sa acc.length cap).ownBlock := by
              intro b hb e
              have := (unhide HOWN').lt b e.symm
              omega
            have HB0'' := hide (blk_grown (blk_alloc (blk_alloc (unhide HB0'))) hgrow (hne _ (by omega)))
            have HB1'' := hide (blk_grown (blk_alloc (blk_alloc (unhide HB1'))) hgrow (hne _ (by omega)))
            have HBEL'' := hide (Below.grown (((unhide HBEL').alloc (by have := (unhide HBEL').size; omega) _).alloc (by have := (unhide HBEL').size; simp; omega) _) hgrow (by have := (unhide HBEL').size; simp; omega) (fun k hk => by have := (unhide HOWN').lt k hk; omega))
            have HOWN3 := hide hown3
            clear hown3 hgrow hne hc3 hf3 hlt1
            have hc3 : w3.cell? ⟨w.heap.size + 1, 2, none⟩ = some (.slice sa acc.length cap) := blk_cell (unhide HB1'') 2
            have hf3 : w3.frozen? ⟨w.heap.size + 1, 2, none⟩ = false := blk_free (unhide HB1'') 2
            go_wp2
            go_roundw
            case rel =>
              refine ⟨p + 9, acc ++ [mkSig s p], .slice a3 (acc.length + 1) cap3, by go_num, by omega, by simp; omega, blk_set_other _ (unhide HB0'') (by omega), blk_set (unhide HB1'') 2 _, ?_, (unhide HBEL'').setCell (by simp) _, ?_⟩
              · have := ownsRow_setCell_below (unhide HOWN3) (a := ⟨w.heap.size + 1, 2, none⟩) (by simp) (.slice a3 (acc.length + 1) cap3)
                simpa [List.flatMap_append] using this
              · rw [← unhide HGL, glue_step (by omega) ⟨hps, unhide H44⟩ (unhide HNS), List.length_append]
                congr 2
            case measure => simp [intOf]; omega
        · have hend : glue acc (pSigs s (8 - acc.length) p) = .inr (acc, p) := glue_stop (by
            by_cases h1 : acc.length < 8
            · exact .inr (fun h => hgo ⟨h1, h⟩)
            · exact .inl (by omega))
          have hfin : pMsg s i = .inr (mkMsg s i acc, p) := by rw [pMsg_sigs (unhide HNH), ← unhide HGL, hend]
          have HFIN := hide hfin
          clear hend hfin
          have hz : sz = bt s (i + 3) - 48 := by
            rw [unhide HSZ, bt_of h3]
          have HZ := hide hz
          clear hz
          have hways : ((s.size : Int) ≤ (p : Int)) ∨ (p < s.size ∧ bt s p ≠ 44) ∨ (p < s.size ∧ bt s p = 44 ∧ (8 : Int) ≤ (acc.length : Int)) := by
            by_cases h2 : p < s.size
            · by_cases h1 : bt s p = 44
              · exact .inr (.inr ⟨h2, h1, by rcases Nat.lt_or_ge acc.length 8 with h | h; exact absurd ⟨h, h2, h1⟩ hgo; omega⟩)
              · exact .inr (.inl ⟨h2, h1⟩)
            · exact .inl (by omega)
          clear hgo
          have d0 : wr.cell? ⟨w.heap.size + 1, 0, none⟩ = some (.string (s.extract i (i + 3))) := blk_cell (unhide HB1) 0
          have d1 : wr.cell? ⟨w.heap.size + 1, 1, none⟩ = some (.int .i64 sz) := blk_cell (unhide HB1) 1
          have d3 : wr.cell? ⟨w.heap.size + 1, 3, none⟩ = some (.int .i64 i) := blk_cell (unhide HB1) 3
          have f0 : wr.frozen? ⟨w.heap.size, 0, none⟩ = false := blk_free (unhide HB0) 0
          have f1 : wr.frozen? ⟨w.heap.size, 1, none⟩ = false := blk_free (unhide HB0) 1
          have f2 : wr.frozen? ⟨w.heap.size, 2, none⟩ = false := blk_free (unhide HB0) 2
          have f3 : wr.frozen? ⟨w.heap.size, 3, none⟩ = false := blk_free (unhide HB0) 3
          have b0 : wr.cell? ⟨w.heap.size, 0, none⟩ = some (.string { data := #[] }) := blk_cell (unhide HB0) 0
          have b1 : wr.cell? ⟨w.heap.size, 1, none⟩ = some (.int .i64 0) := blk_cell (unhide HB0) 1
          have b2 : wr.cell? ⟨w.heap.size, 2, none⟩ = some (.slice none 0 0) := blk_cell (unhide HB0) 2
          have b3 : wr.cell? ⟨w.heap.size, 3, none⟩ = some (.int .i64 0) := blk_cell (unhide HB0) 3
          rcases hways with hq | ⟨hq, hq2⟩ | ⟨hq, hq2, hq3⟩
          · go_wp2
            exact bodyPost_ret (v := .tuple #[.agg #[.string (s.extract i (i + 3)), .int .i64 sz, .slice sa acc.length cap, .int .i64 i], .int .i64 p, .bool true]) (by simp [results, Try.results74, go_sem, b0, b1, b2, b3]) rfl ⟨RMsgOut_good (unhide HFIN) (unhide HZ) (set4_owns (unhide HOWN) _ _ _ _), set4_below (unhide HBEL) _ _ _ _⟩
          · have hq4 : ((s[p].toNat : Int) == 44) = false := by rw [bt_of hq]; simpa using hq2
            clear hq2
            go_wp2
            exact bodyPost_ret (v := .tuple #[.agg #[.string (s.extract i (i + 3)), .int .i64 sz, .slice sa acc.length cap, .int .i64 i], .int .i64 p, .bool true]) (by simp [results, Try.results74, go_sem, b0, b1, b2, b3]) rfl ⟨RMsgOut_good (unhide HFIN) (unhide HZ) (set4_owns (unhide HOWN) _ _ _ _), set4_below (unhide HBEL) _ _ _ _⟩
          · have hq4 : ((s[p].toNat : Int) == 44) = true := by rw [bt_of hq, hq2]; rfl
            clear hq2
            go_wp2
            exact bodyPost_ret (v := .tuple #[.agg #[.string (s.extract i (i + 3)), .int .i64 sz, .slice sa acc.length cap, .int .i64 i], .int .i64 p, .bool true]) (by simp [results, Try.results74, go_sem, b0, b1, b2, b3]) rfl ⟨RMsgOut_good (unhide HFIN) (unhide HZ) (set4_owns (unhide HOWN) _ _ _ _), set4_below (unhide HBEL) _ _ _ _⟩

end Go.Proofs.Ytoihlnjcgopdlab

namespace Go.Proofs.Ytoihlnjcgopdlab
open Go.RowKit

def mgCells (x : Mg × Value) : List Value := [.int .i64 x.1.pl, .int .i64 (idNum x.1.id), .int .i64 x.1.sz, x.2]
def rmgCells (x : Mg × Value) : List Value := [.string x.1.id, .int .i64 x.1.sz, x.2, .int .i64 x.1.pl]
/-- The slice value v reads as the messages P, each beside the slice of its signals (the program's; the document's). -/
def MsgsAt (B : Nat) (w : World) (v : Value) (P : List (Mg × Value)) : Prop := w.ownsRow B 82 4 v P.length (P.flatMap mgCells) ∧ ∀ x ∈ P, SigsAt w x.2 x.1.sigs
def RMsgsAt (B : Nat) (w : World) (v : Value) (P : List (Mg × Value)) : Prop := w.ownsRow B 50 4 v P.length (P.flatMap rmgCells) ∧ ∀ x ∈ P, RSigsAt w x.2 x.1.sigs

theorem MsgsAt.below {B : Nat} {w w' : World} {v : Value} {P : List (Mg × Value)} (h : MsgsAt B w v P) (hb : Below w.heap.size w w') : MsgsAt B w' v P :=
  ⟨ownsRow_bel h.1 hb, fun x hx => ownsRow_below (h.2 x hx) hb⟩
theorem RMsgsAt.below {B : Nat} {w w' : World} {v : Value} {P : List (Mg × Value)} (h : RMsgsAt B w v P) (hb : Below w.heap.size w w') : RMsgsAt B w' v P :=
  ⟨ownsRow_bel h.1 hb, fun x hx => ownsRow_below (h.2 x hx) hb⟩

theorem ownsRow_block {w : World} {B e s : Nat} {v : Value} {n : Nat} {xs : List Value} (h : w.ownsRow B e s v n xs) : ∀ k, v.ownBlock = some k → ∃ cur, w.heap[k]? = some (.cells cur e (0, 0)) := by
  intro k hk
  rcases h.2 with ⟨rfl, _⟩ | ⟨g, cap, cur, rfl, _, hg, _⟩
  · simp [Value.ownBlock] at hk
  · simp [Value.ownBlock] at hk; subst hk; exact ⟨cur, hg⟩

/-- A row of one element type stays while a row of another is appended to. -/
theorem ownsRow_grown {w w' : World} {e e' s : Nat} {v : Value} {n : Nat} {xs : List Value} {row : Option Nat} (h : w.ownsRow 0 e s v n xs) (hg : w.grownBy w' row)
    (hrow : ∀ k, row = some k → ∃ cur, w.heap[k]? = some (.cells cur e' (0, 0))) (hne : e ≠ e') : w'.ownsRow 0 e s v n xs := by
  refine h.kept hg ?_
  cases hv : v.ownBlock with
  | none => exact .inl rfl
  | some k =>
    refine .inr (fun he => ?_)
    obtain ⟨cur, h1⟩ := hrow k he.symm
    obtain ⟨cur', h2⟩ := ownsRow_block h k hv
    rw [h1] at h2
    simp at h2
    exact hne h2.2.symm

theorem Try.infoMsg : (Try.prog.info? 82).map (fun i => (i.zero, i.size, i.bytes)) = some (some (.agg #[.int .i64 0, .int .i64 0, .int .i64 0, .slice none 0 0]), 4, 48) := by kernel_rfl
theorem Try.infoRMsg : (Try.prog.info? 50).map (fun i => (i.zero, i.size, i.bytes)) = some (some (.agg #[.string { data := #[] }, .int .i64 0, .slice none 0 0, .int .i64 0]), 4, 56) := by kernel_rfl

theorem glueM_fail {s : ByteArray} {acc : List Mg} {f p q : Nat} (hf : 0 < f) (h : pMsg s p = .inl q) : glueM acc (pDb s f p) = .inl q := by
  obtain ⟨f, rfl⟩ : ∃ k, f = k + 1 := ⟨f - 1, by omega⟩
  rw [pDb, h]; rfl
theorem glueM_end {s : ByteArray} {acc : List Mg} {f p e : Nat} {m : Mg} (hf : 0 < f) (h : pMsg s p = .inr (m, e)) (he : s.size ≤ e) : glueM acc (pDb s f p) = .inr (acc ++ [m]) := by
  obtain ⟨f, rfl⟩ : ∃ k, f = k + 1 := ⟨f - 1, by omega⟩
  rw [pDb, h]; simp only [if_pos he]; rfl
theorem glueM_semi {s : ByteArray} {acc : List Mg} {f p e : Nat} {m : Mg} (hf : 0 < f) (h : pMsg s p = .inr (m, e)) (he : ¬ s.size ≤ e) (h59 : bt s e ≠ 59) : glueM acc (pDb s f p) = .inl e := by
  obtain ⟨f, rfl⟩ : ∃ k, f = k + 1 := ⟨f - 1, by omega⟩
  rw [pDb, h]; simp only [if_neg he, if_neg h59]; rfl
theorem glueM_next {s : ByteArray} {acc : List Mg} {f p e : Nat} {m : Mg} (hf : 0 < f) (h : pMsg s p = .inr (m, e)) (he : ¬ s.size ≤ e) (h59 : bt s e = 59) : glueM acc (pDb s f p) = glueM (acc ++ [m]) (pDb s (f - 1) (e + 1)) := by
  obtain ⟨f, rfl⟩ : ∃ k, f = k + 1 := ⟨f - 1, by omega⟩
  rw [pDb, h]; simp only [if_neg he, if_pos h59, Nat.add_sub_cancel]
  rcases pDb s f (e + 1) with q | l <;> simp [glueM]
theorem glueM_nil (x : Nat ⊕ List Mg) : glueM [] x = x := by rcases x with p | l <;> rfl

def DbOut (s : ByteArray) (e : Ending) (w' : World) : Prop :=
  match pDb s 4 0 with
  | .inl p => e = .returned (.tuple #[.slice none 0 0, .bool false, .int .i64 p])
  | .inr M => ∃ v P q, P.map Prod.fst = M ∧ e = .returned (.tuple #[v, .bool true, .int .i64 q]) ∧ MsgsAt 0 w' v P ∧ P.length ≤ 4 ∧ ∀ x ∈ P, x.1.Ok

theorem DbOut_bad {s : ByteArray} {p : Nat} {w' : World} {q : Int} (h : pDb s 4 0 = .inl p) (hq : q = p) : DbOut s (.returned (.tuple #[.slice none 0 0, .bool false, .int .i64 q])) w' := by
  unfold DbOut; rw [h, hq]
theorem DbOut_good {s : ByteArray} {w' : World} {v : Value} {P : List (Mg × Value)} {q : Int} (h : pDb s 4 0 = .inr (P.map Prod.fst)) (hm : MsgsAt 0 w' v P) (hl : P.length ≤ 4) (hok : ∀ x ∈ P, x.1.Ok) : DbOut s (.returned (.tuple #[v, .bool true, .int .i64 q])) w' := by
  unfold DbOut; rw [h]; exact ⟨v, P, q, rfl, rfl, hm, hl, hok⟩

theorem msgs_push {B : Nat} {w1 w3 : World} {v v3 sv : Value} {P : List (Mg × Value)} {m : Mg} {o1 o2 : Obj} (hm : MsgsAt B w1 v P) (hsv : SigsAt w1 sv m.sigs)
    (hg : ((w1.alloc o1).alloc o2).grownBy w3 v.ownBlock) (ho : w3.ownsRow B 82 4 v3 (P.length + 1) (P.flatMap mgCells ++ mgCells (m, sv))) : MsgsAt B w3 v3 (P ++ [(m, sv)]) := by
  have hblk := ownsRow_block ((hm.1.alloc o1).alloc o2)
  have keep : ∀ (u : Value) (L : List Sg), SigsAt w1 u L → SigsAt w3 u L := fun u L h =>
    ownsRow_grown (e' := 82) ((World.ownsRow.alloc h o1).alloc o2) hg hblk (by decide)
  refine ⟨by simpa [List.flatMap_append] using ho, fun x hx => ?_⟩
  rcases List.mem_append.1 hx with hx | hx
  · exact keep _ _ (hm.2 x hx)
  · simp at hx; subst hx; exact keep _ _ hsv
theorem rmsgs_push {B : Nat} {w1 w3 : World} {v v3 sv : Value} {P : List (Mg × Value)} {m : Mg} {o1 o2 : Obj} (hm : RMsgsAt B w1 v P) (hsv : RSigsAt w1 sv m.sigs)
    (hg : ((w1.alloc o1).alloc o2).grownBy w3 v.ownBlock) (ho : w3.ownsRow B 50 4 v3 (P.length + 1) (P.flatMap rmgCells ++ rmgCells (m, sv))) : RMsgsAt B w3 v3 (P ++ [(m, sv)]) := by
  have hblk := ownsRow_block ((hm.1.alloc o1).alloc o2)
  have keep : ∀ (u : Value) (L : List Sg), RSigsAt w1 u L → RSigsAt w3 u L := fun u L h =>
    ownsRow_grown (e' := 50) ((World.ownsRow.alloc h o1).alloc o2) hg hblk (by decide)
  refine ⟨by simpa [List.flatMap_append] using ho, fun x hx => ?_⟩
  rcases List.mem_append.1 hx with hx | hx
  · exact keep _ _ (hm.2 x hx)
  · simp at hx; subst hx; exact keep _ _ hsv
theorem MsgsAt.base {B : Nat} {w : World} {v : Value} {P : List (Mg × Value)} (h : MsgsAt B w v P) : MsgsAt 0 w v P := ⟨ownsRow_base h.1, h.2⟩
theorem RMsgsAt.base {B : Nat} {w : World} {v : Value} {P : List (Mg × Value)} (h : RMsgsAt B w v P) : RMsgsAt 0 w v P := ⟨ownsRow_base h.1, h.2⟩
theorem ok_push {P : List (Mg × Value)} {m : Mg} {sv : Value} (h : ∀ x ∈ P, x.1.Ok) (hm : m.Ok) : ∀ x ∈ P ++ [(m, sv)], x.1.Ok := by
  intro x hx
  rcases List.mem_append.1 hx with hx | hx
  · exact h x hx
  · simp at hx; subst hx; exact hm

set_option maxRecDepth 100000 in
set_option maxHeartbeats 2000000 in
theorem readDatabase_any (s : ByteArray) (w : World) (hs : s.size ≤ 320) :
    Calls Try.prog 90 #[.string s] w fun e w' => DbOut s e w' ∧ Below w.heap.size w w' := by
  obtain ⟨i0, hinf, hz0, hz1, hz2⟩ := info_parts Try.infoMsg
  have HINF := hide hinf
  have HZ0 := hide hz0
  have HZ1 := hide hz1
  have HZ2 := hide hz2
  clear hinf hz0 hz1 hz2
  go_enter Try.func90, Try.ntmps90
  go_wp2
  go_loopw [5, 6, 7, 8, 9] (fun v a _ _ _ wr => ∃ (p : Nat) (P : List (Mg × Value)), a = .int .i64 p ∧ p ≤ s.size + 1 ∧ P.length ≤ 4 ∧ (4 ≤ P.length → 1 ≤ p) ∧ MsgsAt w.heap.size wr v P ∧ (∀ x ∈ P, x.1.Ok) ∧
      Below w.heap.size w wr ∧ glueM (P.map Prod.fst) (pDb s (4 - P.length) p) = pDb s 4 0) (fun _ a _ _ _ _ => s.size + 10 - (intOf a).toNat)
  case atStart =>
    refine ⟨0, [], rfl, by omega, by simp, by simp, ⟨⟨by simp, .inr ⟨w.heap.size, 0, #[], rfl, Nat.le_refl _, blk_new _ _, by simp, by simp [maxLen], by simp, by simp⟩⟩, by simp⟩, by simp, (Below.refl _ _).alloc (Nat.le_refl _) _, glueM_nil _⟩
  case round =>
    obtain ⟨p, P, rfl, hp, hP, hp1, hm, hok, hbel, hgl⟩ := hrel
    obtain ⟨sa, cap, rfl⟩ := ownsRow_form hm.1
    have HM := hide hm
    have HOK := hide hok
    have HBEL := hide hbel
    have HGL := hide hgl
    clear hm hok hbel hgl
    by_cases hlt : P.length < 4
    · go_wp2_with fail
      refine (readMessage_any s p _ hs hp).mono ?_
      rintro e w1 ⟨hout, hb1⟩
      have HBEL1 := hide ((unhide HBEL).trans (hb1.mono (unhide HBEL).size))
      have HM1 := hide ((unhide HM).below hb1)
      clear hb1
      cases hpm : pMsg s p with
      | inl q =>
        rw [MsgOut, hpm] at hout
        dsimp only at hout
        subst hout
        have HFIN := hide (show pDb s 4 0 = .inl q by rw [← unhide HGL, glueM_fail (by omega) hpm])
        clear hpm
        go_wp2
        go_ret3
        exact ⟨DbOut_bad (unhide HFIN) rfl, (unhide HBEL1).alloc (unhide HBEL1).size _⟩
      | inr x =>
        obtain ⟨m, q⟩ := x
        rw [MsgOut, hpm] at hout
        dsimp only at hout
        obtain ⟨sv, rfl, hsv⟩ := hout
        obtain ⟨va, vcap, rfl⟩ := ownsRow_form hsv
        have HSV := hide hsv
        have HPM := hide hpm
        have hmo := pMsg_ok hpm
        have HMO := hide hmo.1
        have hq := hmo.2.2
        clear hsv hpm hmo
        go_wp2_with (at_builtin; refine wpList_append_own _ rfl _ _ 104 rfl w.heap.size 82 i0 _ 4 48 Try.underlying104 (unhide HINF) (unhide HZ0) (unhide HZ1) (unhide HZ2) rfl (by decide) _ _ _ rfl (((unhide HM1).1.alloc _).alloc _) ⟨w1.heap.size + 1, 0, none⟩ 1 1 (mgCells (m, .slice va m.sigs.length vcap)) rfl rfl ?c1 ?c2 ?c3 ?c4 ?c5 ?_)
        case c1 => exact new_cells (new_two _ _ _)
        case c2 => simp [mgCells, Value.oneCell']
        case c3 => unfold maxLen; omega
        case c4 => omega
        case c5 => have := (unhide HBEL1).size; simp; omega
        intro v3 w3 hown3 hgrow _
        obtain ⟨a3, cap3, rfl⟩ := ownsRow_form hown3
        have HM3 := hide (msgs_push (unhide HM1) (unhide HSV) hgrow hown3)
        have HBEL3 := hide (Below.grown (((unhide HBEL1).alloc (unhide HBEL1).size _).alloc (by have := (unhide HBEL1).size; simp; omega) _) hgrow (by have := (unhide HBEL1).size; simp; omega) (fun k hk => ((unhide HM1).1.lt k hk).1))
        clear hown3 hgrow
        by_cases he : s.size ≤ q
        · have HFIN := hide (show pDb s 4 0 = .inr ((P ++ [(m, Value.slice va m.sigs.length vcap)]).map Prod.fst) by rw [← unhide HGL, glueM_end (by omega) (unhide HPM) he]; simp)
          go_wp2
          go_ret3
          exact ⟨DbOut_good (unhide HFIN) (unhide HM3).base (by simp; omega) (ok_push (unhide HOK) (unhide HMO)), unhide HBEL3⟩
        · by_cases h59 : bt s q = 59
          · have e59 : ((s[q].toNat : Int) != 59) = false := by rw [bt_of (by omega), h59]; rfl
            have H59 := hide h59
            clear h59
            go_wp2
            go_roundw
            case rel =>
              refine ⟨q + 1, P ++ [(m, Value.slice va m.sigs.length vcap)], by go_num, by omega, by simp; omega, fun _ => by omega, unhide HM3, ok_push (unhide HOK) (unhide HMO), unhide HBEL3, ?_⟩
              rw [← unhide HGL, glueM_next (by omega) (unhide HPM) he (unhide H59)]
              rw [List.map_append, List.length_append]
              congr 2
            case measure => have := (pMsg_ok (unhide HPM)).2.1; simp [intOf]; omega
          · have e59 : ((s[q].toNat : Int) != 59) = true := by rw [bt_of (by omega)]; simpa using h59
            have HFIN := hide (show pDb s 4 0 = .inl q by rw [← unhide HGL, glueM_semi (by omega) (unhide HPM) he h59])
            clear h59
            go_wp2
            go_ret3
            exact ⟨DbOut_bad (unhide HFIN) rfl, unhide HBEL3⟩
    · have h4 : P.length = 4 := by omega
      have HFIN := hide (show pDb s 4 0 = .inl (p - 1) by rw [← unhide HGL, h4]; rfl)
      have hp2 := hp1 (by omega)
      clear h4
      go_wp2
      go_ret3
      exact ⟨DbOut_bad (unhide HFIN) (by omega), unhide HBEL⟩

end Go.Proofs.Ytoihlnjcgopdlab

namespace Go.Proofs.Ytoihlnjcgopdlab
open Go.RowKit

def RDbOut (s : ByteArray) (e : Ending) (w' : World) : Prop :=
  match pDb s 4 0 with
  | .inl p => e = .returned (.tuple #[.slice none 0 0, .int .i64 p, .bool false])
  | .inr M => ∃ v P q, P.map Prod.fst = M ∧ e = .returned (.tuple #[v, .int .i64 q, .bool true]) ∧ RMsgsAt 0 w' v P ∧ P.length ≤ 4 ∧ ∀ x ∈ P, x.1.Ok

theorem RDbOut_bad {s : ByteArray} {p : Nat} {w' : World} {q : Int} (h : pDb s 4 0 = .inl p) (hq : q = p) : RDbOut s (.returned (.tuple #[.slice none 0 0, .int .i64 q, .bool false])) w' := by
  unfold RDbOut; rw [h, hq]
theorem RDbOut_good {s : ByteArray} {w' : World} {v : Value} {P : List (Mg × Value)} {q : Int} (h : pDb s 4 0 = .inr (P.map Prod.fst)) (hm : RMsgsAt 0 w' v P) (hl : P.length ≤ 4) (hok : ∀ x ∈ P, x.1.Ok) : RDbOut s (.returned (.tuple #[v, .int .i64 q, .bool true])) w' := by
  unfold RDbOut; rw [h]; exact ⟨v, P, q, rfl, rfl, hm, hl, hok⟩
theorem glueM_last {s : ByteArray} {acc : List Mg} {p e : Nat} {m : Mg} (h : pMsg s p = .inr (m, e)) (he : ¬ s.size ≤ e) (h59 : bt s e = 59) : glueM acc (pDb s 1 p) = .inl e := by
  rw [glueM_next (by omega) h he h59]; rfl

set_option maxRecDepth 100000 in
set_option maxHeartbeats 2000000 in
theorem rRead_any (s : ByteArray) (w : World) (hs : s.size ≤ 140737488351232) :
    Calls Try.prog 44 #[.string s] w fun e w' => RDbOut s e w' ∧ Below w.heap.size w w' := by
  obtain ⟨i0, hinf, hz0, hz1, hz2⟩ := info_parts Try.infoRMsg
  have HINF := hide hinf
  have HZ0 := hide hz0
  have HZ1 := hide hz1
  have HZ2 := hide hz2
  clear hinf hz0 hz1 hz2
  go_enter Try.func44, Try.ntmps44
  go_wp2
  go_loopw [5, 6, 7, 8, 9, 10] (fun v a n _ _ _ wr => ∃ (p : Nat) (P : List (Mg × Value)), a = .int .i64 p ∧ n = .int .i64 P.length ∧ p ≤ s.size + 1 ∧ P.length < 4 ∧ RMsgsAt w.heap.size wr v P ∧ (∀ x ∈ P, x.1.Ok) ∧
      Below w.heap.size w wr ∧ glueM (P.map Prod.fst) (pDb s (4 - P.length) p) = pDb s 4 0) (fun _ a _ _ _ _ _ => s.size + 10 - (intOf a).toNat)
  case atStart =>
    refine ⟨0, [], rfl, rfl, by omega, by simp, ⟨World.ownsRow_nil _ _ _ _, by simp⟩, by simp, Below.refl _ _, glueM_nil _⟩
  case round =>
    obtain ⟨p, P, rfl, rfl, hp, hlt, hm, hok, hbel, hgl⟩ := hrel
    obtain ⟨sa, cap, rfl⟩ := ownsRow_form hm.1
    have HM := hide hm
    have HOK := hide hok
    have HBEL := hide hbel
    have HGL := hide hgl
    clear hm hok hbel hgl
    go_wp2_with fail
    refine (rMessage_any s p _ hs hp).mono ?_
    rintro e w1 ⟨hout, hb1⟩
    have HBEL1 := hide ((unhide HBEL).trans (hb1.mono (unhide HBEL).size))
    have HM1 := hide ((unhide HM).below hb1)
    clear hb1
    cases hpm : pMsg s p with
    | inl q =>
      rw [RMsgOut, hpm] at hout
      dsimp only at hout
      subst hout
      have HFIN := hide (show pDb s 4 0 = .inl q by rw [← unhide HGL, glueM_fail (by omega) hpm])
      clear hpm
      go_wp2
      go_ret3
      exact ⟨RDbOut_bad (unhide HFIN) rfl, (unhide HBEL1).alloc (unhide HBEL1).size _⟩
    | inr x =>
      obtain ⟨m, q⟩ := x
      rw [RMsgOut, hpm] at hout
      dsimp only at hout
      obtain ⟨sv, rfl, hsv⟩ := hout
      obtain ⟨va, vcap, rfl⟩ := ownsRow_form hsv
      have HSV := hide hsv
      have HPM := hide hpm
      have hmo := pMsg_ok hpm
      have HMO := hide hmo.1
      have hq := hmo.2.2
      clear hsv hpm hmo
      go_wp2_with (at_builtin; refine wpList_append_own _ rfl _ _ 73 rfl w.heap.size 50 i0 _ 4 56 Try.underlying73 (unhide HINF) (unhide HZ0) (unhide HZ1) (unhide HZ2) rfl (by decide) _ _ _ rfl (((unhide HM1).1.alloc _).alloc _) ⟨w1.heap.size + 1, 0, none⟩ 1 1 (rmgCells (m, .slice va m.sigs.length vcap)) rfl rfl ?c1 ?c2 ?c3 ?c4 ?c5 ?_)
      case c1 => exact new_cells (new_two _ _ _)
      case c2 => simp [rmgCells, Value.oneCell']
      case c3 => unfold maxLen; omega
      case c4 => omega
      case c5 => have := (unhide HBEL1).size; simp; omega
      intro v3 w3 hown3 hgrow _
      obtain ⟨a3, cap3, rfl⟩ := ownsRow_form hown3
      have HM3 := hide (rmsgs_push (unhide HM1) (unhide HSV) hgrow hown3)
      have HBEL3 := hide (Below.grown (((unhide HBEL1).alloc (unhide HBEL1).size _).alloc (by have := (unhide HBEL1).size; simp; omega) _) hgrow (by have := (unhide HBEL1).size; simp; omega) (fun k hk => ((unhide HM1).1.lt k hk).1))
      clear hown3 hgrow
      by_cases he : s.size ≤ q
      · have HFIN := hide (show pDb s 4 0 = .inr ((P ++ [(m, Value.slice va m.sigs.length vcap)]).map Prod.fst) by rw [← unhide HGL, glueM_end (by omega) (unhide HPM) he]; simp)
        have eq1 : ((q : Int) == (s.size : Int)) = true := by rw [beq_iff_eq]; omega
        go_wp2
        go_ret3
        exact ⟨RDbOut_good (unhide HFIN) (unhide HM3).base (by simp; omega) (ok_push (unhide HOK) (unhide HMO)), unhide HBEL3⟩
      · have eq1 : ((q : Int) == (s.size : Int)) = false := by rw [beq_eq_false_iff_ne]; omega
        by_cases h59 : bt s q = 59
        · have e59 : ((s[q].toNat : Int) != 59) = false := by rw [bt_of (by omega), h59]; rfl
          have H59 := hide h59
          clear h59
          by_cases h4 : P.length = 3
          · have e4 : ((P.length : Int) + 1 == 4) = true := by rw [h4]; rfl
            have HFIN := hide (show pDb s 4 0 = .inl q by rw [← unhide HGL, h4, glueM_last (unhide HPM) he (unhide H59)])
            clear h4
            go_wp2
            go_ret3
            exact ⟨RDbOut_bad (unhide HFIN) rfl, unhide HBEL3⟩
          · have e4 : ((P.length : Int) + 1 == 4) = false := by rw [beq_eq_false_iff_ne]; omega
            have h4' : P.length < 3 := by omega
            clear h4
            go_wp2
            go_roundw
            case rel =>
              refine ⟨q + 1, P ++ [(m, Value.slice va m.sigs.length vcap)], by go_num, by simp, by omega, by simp; omega, unhide HM3, ok_push (unhide HOK) (unhide HMO), unhide HBEL3, ?_⟩
              rw [← unhide HGL, glueM_next (by omega) (unhide HPM) he (unhide H59)]
              rw [List.map_append, List.length_append]
              congr 2
            case measure => have := (pMsg_ok (unhide HPM)).2.1; simp [intOf]; omega
        · have e59 : ((s[q].toNat : Int) != 59) = true := by rw [bt_of (by omega)]; simpa using h59
          have HFIN := hide (show pDb s 4 0 = .inl q by rw [← unhide HGL, glueM_semi (by omega) (unhide HPM) he h59])
          clear h59
          go_wp2
          go_ret3
          exact ⟨RDbOut_bad (unhide HFIN) rfl, unhide HBEL3⟩

end Go.Proofs.Ytoihlnjcgopdlab

namespace Go.Proofs.Ytoihlnjcgopdlab
open Go.RowKit

def noMg : Mg × Value := (⟨0, { data := #[] }, 0, []⟩, .slice none 0 0)
def mgAt (P : List (Mg × Value)) (k : Nat) : Mg × Value := P.getD k noMg
theorem mgAt_mem {P : List (Mg × Value)} {k : Nat} (h : k < P.length) : mgAt P k ∈ P := by
  rw [mgAt, List.getD_eq_getElem?_getD, List.getElem?_eq_getElem h]; exact List.getElem_mem h
theorem mgAt_eq {P : List (Mg × Value)} {k : Nat} (h : k < P.length) : mgAt P k = P[k] := by simp [mgAt, h]

theorem MsgsAt.opened {w : World} {v : Value} {P : List (Mg × Value)} (h : MsgsAt 0 w v P) :
    (P = [] ∧ (∃ a c, v = .slice a 0 c)) ∨ ∃ g cap, v = .slice (some ⟨g, 0, none⟩) P.length cap ∧ g < w.heap.size ∧ P.length ≤ cap ∧ cap ≤ maxLen ∧
      ∀ k j, k < P.length → j < 4 → w.cell? ⟨g, k * 4 + j, none⟩ = (mgCells (mgAt P k))[j]? := by
  have h' := h.1
  obtain ⟨hl, h2⟩ := h.1
  rcases h2 with ⟨rfl, hn⟩ | ⟨g, cap, cur, rfl, _, hg, hnc, hcm, hcs, ht⟩
  · exact .inl ⟨List.eq_nil_of_length_eq_zero hn, _, _, rfl⟩
  · refine .inr ⟨g, cap, rfl, (Array.getElem?_eq_some_iff.1 hg).1, hnc, hcm, fun k j hk hj => ?_⟩
    obtain ⟨g', cap', e1, e2, _⟩ := row_cell h' (k * 4 + j) (by omega)
    cases e1
    rw [e2, flat_get mgCells 4 (fun _ => rfl) P k j hk hj, mgAt_eq hk]
theorem RMsgsAt.opened {w : World} {v : Value} {P : List (Mg × Value)} (h : RMsgsAt 0 w v P) :
    (P = [] ∧ (∃ a c, v = .slice a 0 c)) ∨ ∃ g cap, v = .slice (some ⟨g, 0, none⟩) P.length cap ∧ g < w.heap.size ∧ P.length ≤ cap ∧ cap ≤ maxLen ∧
      ∀ k j, k < P.length → j < 4 → w.cell? ⟨g, k * 4 + j, none⟩ = (rmgCells (mgAt P k))[j]? := by
  have h' := h.1
  obtain ⟨hl, h2⟩ := h.1
  rcases h2 with ⟨rfl, hn⟩ | ⟨g, cap, cur, rfl, _, hg, hnc, hcm, hcs, ht⟩
  · exact .inl ⟨List.eq_nil_of_length_eq_zero hn, _, _, rfl⟩
  · refine .inr ⟨g, cap, rfl, (Array.getElem?_eq_some_iff.1 hg).1, hnc, hcm, fun k j hk hj => ?_⟩
    obtain ⟨g', cap', e1, e2, _⟩ := row_cell h' (k * 4 + j) (by omega)
    cases e1
    rw [e2, flat_get rmgCells 4 (fun _ => rfl) P k j hk hj, mgAt_eq hk]
theorem mcells4 {w wr : World} {g k : Nat} {P : List (Mg × Value)} (hc : ∀ k j, k < P.length → j < 4 → w.cell? ⟨g, k * 4 + j, none⟩ = (mgCells (mgAt P k))[j]?) (hg : g < w.heap.size) (hb : Below w.heap.size w wr) (hk : k < P.length) :
    wr.cell? ⟨g, k * 4, none⟩ = some (.int .i64 (mgAt P k).1.pl) ∧ wr.cell? ⟨g, k * 4 + 1, none⟩ = some (.int .i64 (idNum (mgAt P k).1.id)) ∧ wr.cell? ⟨g, k * 4 + 2, none⟩ = some (.int .i64 (mgAt P k).1.sz) ∧ wr.cell? ⟨g, k * 4 + 3, none⟩ = some (mgAt P k).2 := by
  have h : ∀ j, j < 4 → wr.cell? ⟨g, k * 4 + j, none⟩ = (mgCells (mgAt P k))[j]? := fun j hj => by
    rw [hb.cell (p := ⟨g, k * 4 + j, none⟩) hg]; exact hc k j hk hj
  exact ⟨h 0 (by omega), h 1 (by omega), h 2 (by omega), h 3 (by omega)⟩
theorem rmcells4 {w wr : World} {g k : Nat} {P : List (Mg × Value)} (hc : ∀ k j, k < P.length → j < 4 → w.cell? ⟨g, k * 4 + j, none⟩ = (rmgCells (mgAt P k))[j]?) (hg : g < w.heap.size) (hb : Below w.heap.size w wr) (hk : k < P.length) :
    wr.cell? ⟨g, k * 4, none⟩ = some (.string (mgAt P k).1.id) ∧ wr.cell? ⟨g, k * 4 + 1, none⟩ = some (.int .i64 (mgAt P k).1.sz) ∧ wr.cell? ⟨g, k * 4 + 2, none⟩ = some (mgAt P k).2 ∧ wr.cell? ⟨g, k * 4 + 3, none⟩ = some (.int .i64 (mgAt P k).1.pl) := by
  have h : ∀ j, j < 4 → wr.cell? ⟨g, k * 4 + j, none⟩ = (rmgCells (mgAt P k))[j]? := fun j hj => by
    rw [hb.cell (p := ⟨g, k * 4 + j, none⟩) hg]; exact hc k j hk hj
  exact ⟨h 0 (by omega), h 1 (by omega), h 2 (by omega), h 3 (by omega)⟩

/-- The number of the message with this id's number, or -1. -/
def findM (P : List (Mg × Value)) (id : Int) : Int := findIx (fun k => decide (idNum (mgAt P k).1.id = id)) P.length

set_option maxHeartbeats 400000 in
theorem findMessage_any (v : Value) (P : List (Mg × Value)) (id : Int) (w : World) (h : MsgsAt 0 w v P) (hl : P.length ≤ 4) :
    Calls Try.prog 78 #[v, .int .i64 id] w fun e w' => e = .returned (.int .i64 (findM P id)) ∧ w' = w := by
  rcases h.opened with ⟨rfl, a, c, rfl⟩ | ⟨g, cap, rfl, hg, hcap, _, hc⟩
  · go_enter Try.func78, Try.ntmps78
    go_wp2
    refine wp_loop_rounds 1 ?_
    rw [rounds_succ]
    go_wp2
    go_ret
    exact ⟨ret_int (by simp [findM, findIx]), rfl⟩
  · have HC := hide hc
    clear hc
    go_enter Try.func78, Try.ntmps78
    go_wp2
    go_loop [5] (fun i => ∃ k : Nat, k ≤ P.length ∧ i = .int .i64 k ∧ ∀ j, j < k → decide (idNum (mgAt P j).1.id = id) = false) (fun i => P.length - (intOf i).toNat)
    case atStart => exact ⟨0, by omega, rfl, by intro j hj; omega⟩
    case round =>
      obtain ⟨k, hk, rfl, hno⟩ := hrel
      have HN := hide hno
      clear hno
      by_cases hlt : k < P.length
      · have hc1 := (mcells4 (unhide HC) hg (Below.refl _ _) hlt).2.1
        by_cases hm : idNum (mgAt P k).1.id = id
        · have hmb : (idNum (mgAt P k).1.id == id) = true := by simp [hm]
          have HM := hide hm
          clear hm
          go_wp2
          go_ret
          exact ⟨ret_int (by rw [findM, findIx_is (unhide HN) hlt (by simpa using unhide HM)]), rfl⟩
        · have hmb : (idNum (mgAt P k).1.id == id) = false := by simp [hm]
          have HM := hide hm
          clear hm
          go_wp2
          go_round
          case rel => exact ⟨k + 1, by omega, by go_num, fun j hj => by
            by_cases e : j = k
            · subst e; simpa using unhide HM
            · exact unhide HN j (by omega)⟩
          case measure => simp [intOf]; omega
      · go_wp2
        go_ret
        exact ⟨ret_int (by rw [findM, findIx_none (fun j hj => unhide HN j (by omega))]), rfl⟩

end Go.Proofs.Ytoihlnjcgopdlab

namespace Go.Proofs.Ytoihlnjcgopdlab
open Go.RowKit

def mAt (M : List Mg) (k : Nat) : Mg := M.getD k noMg.1
theorem mAt_fst (P : List (Mg × Value)) (k : Nat) : mAt (P.map Prod.fst) k = (mgAt P k).1 := by
  unfold mAt mgAt
  rw [List.getD_eq_getElem?_getD, List.getD_eq_getElem?_getD, List.getElem?_map]
  cases P[k]? <;> rfl

/-- Has an earlier message the id of message n? -/
def twice (M : List Mg) (n : Nat) : Bool := anyIx (fun k => decide ((mAt M k).id = (mAt M n).id)) n
def mE (M : List Mg) (n : Nat) : Int := if twice M n then 3 else errSigsE (mAt M n).sigs (mAt M n).sz
def mP (M : List Mg) (n : Nat) : Int := if twice M n then (mAt M n).pl else errSigsP (mAt M n).sigs (mAt M n).sz
def errDbIx (M : List Mg) : Nat := firstIx (fun n => decide (mE M n ≠ 0)) M.length
/-- P3 behind the text's form: the error and its place. -/
def errDbE (M : List Mg) : Int := if errDbIx M < M.length then mE M (errDbIx M) else 0
def errDbP (M : List Mg) : Int := if errDbIx M < M.length then mP M (errDbIx M) else 0

theorem errDb_none {M : List Mg} (h : errDbIx M = M.length) : errDbE M = 0 ∧ errDbP M = 0 := by
  rw [errDbE, errDbP, h, if_neg (by omega), if_neg (by omega)]; exact ⟨rfl, rfl⟩
theorem errDb_is {M : List Mg} {k : Nat} (h : errDbIx M = k) (hk : k < M.length) : errDbE M = mE M k ∧ errDbP M = mP M k := by
  rw [errDbE, errDbP, h, if_pos hk, if_pos hk]; exact ⟨rfl, rfl⟩

theorem hex_inj {a b : Int} (ha : isHexB a = true) (hb : isHexB b = true) (h : worth a = worth b) : a = b := by
  simp [isHexB, isDigB] at ha hb
  unfold worth at h
  split at h <;> split at h <;> omega
theorem hex_lt {a : Int} (ha : isHexB a = true) : 0 ≤ worth a ∧ worth a ≤ 15 := by
  simp [isHexB, isDigB] at ha
  unfold worth; split <;> omega

theorem bytes_ext {a b : ByteArray} (hs : a.size = b.size) (h : ∀ k, k < a.size → bt a k = bt b k) : a = b := by
  apply ByteArray.ext
  apply Array.ext
  · exact hs
  · intro k h1 h2
    have := h k h1
    rw [bt, dif_pos (show k < a.size from h1), bt, dif_pos (show k < b.size from h2)] at this
    have e : (a[k]'h1).toNat = (b[k]'h2).toNat := by omega
    exact UInt8.toNat_inj.1 e

theorem idBad_all {a : ByteArray} (h : idBad a = false) : ∀ k : Nat, k < 3 → headB k (bt a k) = true := by
  intro k hk
  cases e : headB k (bt a k) with
  | true => rfl
  | false =>
    have : idBad a = true := anyIx_true.2 ⟨k, hk, by rw [e]; rfl⟩
    rw [h] at this; cases this

theorem id_inj {a b : ByteArray} (ha : a.size = 3) (hb : b.size = 3) (ga : idBad a = false) (gb : idBad b = false) : idNum a = idNum b ↔ a = b := by
  constructor
  · intro h
    rw [idNum, if_pos ha, ga, idNum, if_pos hb, gb] at h
    simp only [idTo, Bool.false_eq_true, if_false] at h
    have a0 := idBad_all ga 0 (by omega)
    have a1 := idBad_all ga 1 (by omega)
    have a2 := idBad_all ga 2 (by omega)
    have b0 := idBad_all gb 0 (by omega)
    have b1 := idBad_all gb 1 (by omega)
    have b2 := idBad_all gb 2 (by omega)
    have c0 : isHexB (bt a 0) = true := by simp [headB] at a0; simp [isHexB, isDigB]; omega
    have d0 : isHexB (bt b 0) = true := by simp [headB] at b0; simp [isHexB, isDigB]; omega
    have c1 : isHexB (bt a 1) = true := by simpa [headB] using a1
    have c2 : isHexB (bt a 2) = true := by simpa [headB] using a2
    have d1 : isHexB (bt b 1) = true := by simpa [headB] using b1
    have d2 : isHexB (bt b 2) = true := by simpa [headB] using b2
    have l0 := hex_lt c0
    have l1 := hex_lt c1
    have l2 := hex_lt c2
    have m0 := hex_lt d0
    have m1 := hex_lt d1
    have m2 := hex_lt d2
    refine bytes_ext (by omega) (fun k hk => ?_)
    obtain rfl | rfl | rfl : k = 0 ∨ k = 1 ∨ k = 2 := by omega
    · exact hex_inj c0 d0 (by omega)
    · exact hex_inj c1 d1 (by omega)
    · exact hex_inj c2 d2 (by omega)
  · rintro rfl; rfl

theorem mgAt_take (P : List (Mg × Value)) (i k : Nat) (h : k < i) : mgAt (P.take i) k = mgAt P k := by simp [mgAt, h]

theorem findM_twice {P : List (Mg × Value)} (hok : ∀ x ∈ P, x.1.Ok) {i : Nat} (hi : i < P.length) : (0 ≤ findM (P.take i) (idNum (mgAt P i).1.id)) ↔ twice (P.map Prod.fst) i = true := by
  have hlen : (P.take i).length = i := by rw [List.length_take]; omega
  have oki := hok _ (mgAt_mem hi)
  have hex : (0 ≤ findM (P.take i) (idNum (mgAt P i).1.id)) ↔ ∃ k, k < i ∧ idNum (mgAt P k).1.id = idNum (mgAt P i).1.id := by
    unfold findM findIx
    rw [hlen]
    constructor
    · intro h
      by_cases h2 : firstIx (fun k => decide (idNum (mgAt (P.take i) k).1.id = idNum (mgAt P i).1.id)) i < i
      · have := firstIx_yes _ _ h2
        rw [mgAt_take P i _ h2] at this
        exact ⟨_, h2, by simpa using this⟩
      · rw [if_neg h2] at h; omega
    · rintro ⟨k, hk, e⟩
      have hle := firstIx_le (fun k => decide (idNum (mgAt (P.take i) k).1.id = idNum (mgAt P i).1.id)) i
      by_cases h2 : firstIx (fun k => decide (idNum (mgAt (P.take i) k).1.id = idNum (mgAt P i).1.id)) i < i
      · rw [if_pos h2]; omega
      · have := firstIx_no (fun k => decide (idNum (mgAt (P.take i) k).1.id = idNum (mgAt P i).1.id)) i k (by omega)
        rw [mgAt_take P i k hk] at this
        simp [e] at this
  rw [hex, twice, anyIx_true]
  constructor
  · rintro ⟨k, hk, e⟩
    have okk := hok _ (mgAt_mem (show k < P.length by omega))
    refine ⟨k, hk, ?_⟩
    rw [mAt_fst, mAt_fst]
    simpa using (id_inj okk.id oki.id okk.good oki.good).1 e
  · rintro ⟨k, hk, e⟩
    rw [mAt_fst, mAt_fst] at e
    simp only [decide_eq_true_eq] at e
    exact ⟨k, hk, by rw [e]⟩

theorem MsgsAt.take {w : World} {a : Option Addr} {cap k : Nat} {P : List (Mg × Value)} (h : MsgsAt 0 w (.slice a P.length cap) P) (hk : k < P.length) : MsgsAt 0 w (.slice a k cap) (P.take k) := by
  have h1 := ownsRow_take h.1 k (by omega) (by omega)
  refine ⟨?_, fun x hx => h.2 x (List.mem_of_mem_take hx)⟩
  rw [flat_take mgCells 4 (fun _ => rfl) P k, List.length_take, Nat.min_eq_left (by omega)]
  exact h1

theorem sigs_ok {m : Mg} (h : m.Ok) : ∀ k, k < m.sigs.length → (sgAt m.sigs k).Ok := fun k hk => h.ok _ (by rw [sgAt_eq _ _ hk]; exact List.getElem_mem hk)

end Go.Proofs.Ytoihlnjcgopdlab

namespace Go.Proofs.Ytoihlnjcgopdlab
open Go.RowKit

set_option maxRecDepth 100000 in
set_option maxHeartbeats 1000000 in
theorem checkMessages_any (v : Value) (P : List (Mg × Value)) (w : World) (h : MsgsAt 0 w v P) (hl : P.length ≤ 4) (hok : ∀ x ∈ P, x.1.Ok) :
    Calls Try.prog 91 #[v] w fun e w' => e = .returned (.tuple #[.int .i64 (errDbE (P.map Prod.fst)), .int .i64 (errDbP (P.map Prod.fst))]) ∧ Below w.heap.size w w' := by
  have HH := hide h
  have HOK := hide hok
  clear h hok
  rcases (unhide HH).opened with ⟨rfl, a, c, rfl⟩ | ⟨g, cap, rfl, hg, hcap, hcm, hc⟩
  · go_enter Try.func91, Try.ntmps91
    go_wp2
    refine wp_loop_rounds 1 ?_
    rw [rounds_succ]
    go_wp2
    go_ret2
    exact ⟨by simp [errDbE, errDbP], Below.refl _ _⟩
  · have HC := hide hc
    unfold maxLen at hcm
    clear hc
    go_enter Try.func91, Try.ntmps91
    go_wp2
    go_loopw [4, 5, 6, 7] (fun i _ _ _ wr => ∃ k : Nat, k ≤ P.length ∧ i = .int .i64 k ∧ (∀ j, j < k → decide (mE (P.map Prod.fst) j ≠ 0) = false) ∧ Below w.heap.size w wr) (fun i _ _ _ _ => P.length - (intOf i).toNat)
    case atStart => exact ⟨0, by omega, rfl, by intro j hj; omega, Below.refl _ _⟩
    case round =>
      obtain ⟨k, hk, rfl, hno, hb⟩ := hrel
      have HN := hide hno
      have HB := hide hb
      clear hno
      by_cases hlt : k < P.length
      · obtain ⟨c0, c1, c2, c3⟩ := mcells4 (unhide HC) hg hb hlt
        have hsg : SigsAt w (mgAt P k).2 (mgAt P k).1.sigs := (unhide HH).2 _ (mgAt_mem hlt)
        obtain ⟨va, vcap, hva⟩ := ownsRow_form hsg
        rw [hva] at c3 hsg
        have HSG := hide hsg
        have OKk := hide (unhide HOK _ (mgAt_mem hlt))
        clear hva hsg hb
        have hi0 : (0 : Int) ≤ (k : Int) := by omega
        have hi1 : (k : Int) < (P.length : Int) := by omega
        have hi2 : (k : Int) ≤ (P.length : Int) := by omega
        have hi3 : (k : Int) ≤ (cap : Int) := by omega
        have hbox := fun (wx : World) (h : Below (wr.heap.size + 1) (wr.alloc (.cells #[.int .i64 (mgAt P k).1.pl, .int .i64 (idNum (mgAt P k).1.id), .int .i64 (mgAt P k).1.sz, .slice va (mgAt P k).1.sigs.length vcap] 82)) wx) => box_cell h
        have HT := hide (show (P.take k).length ≤ 4 by rw [List.length_take]; omega)
        have htw := findM_twice (unhide HOK) hlt
        cases htb : twice (P.map Prod.fst) k with
        | true =>
          have hf0 : 0 ≤ findM (P.take k) (idNum (mgAt P k).1.id) := htw.2 htb
          have HTB := hide htb
          clear htw htb
          go_wp2
          clear c0 c1 c2 c3
          refine wp_region_noPanic ?_
          refine wp_region_held_drew (S := fun w' => Below (wr.heap.size + 1) (wr.alloc (.cells #[.int .i64 (mgAt P k).1.pl, .int .i64 (idNum (mgAt P k).1.id), .int .i64 (mgAt P k).1.sz, .slice va (mgAt P k).1.sigs.length vcap] 82)) w') (by kernel_rfl) (Below.refl _ _).drew (fun hHeld => ?_)
          refine wpAnyH_take (i := 0) (v := ?_) (at_list rfl) (by kernel_rfl) (by kernel_rfl) (by kernel_rfl) (fun _ _ _ h => h) (Or.inl ⟨by rfl, ?_⟩) (by assumption) ?_
          rotate_left
          · intro w hSw; (try dsimp only at hSw); first | (go_simp; done) | (go_simp; with_reducible rfl)
          try simp only [Act.put]
          try simp only [List.setIfInBounds_toArray]
          try simp only [List.set_cons_succ]
          try simp only [List.set_cons_zero]
          refine wpAnyH_take (i := 1) (v := ?_) (at_list rfl) (by kernel_rfl) (by kernel_rfl) (by kernel_rfl) (fun _ _ _ h => h) (Or.inl ⟨by rfl, ?_⟩) (by assumption) ?_
          rotate_left
          · intro w hSw; (try dsimp only at hSw); first | (go_simp; done) | (go_simp; with_reducible rfl)
          try simp only [Act.put]
          try simp only [List.setIfInBounds_toArray]
          try simp only [List.set_cons_succ]
          try simp only [List.set_cons_zero]
          refine wpAnyH_take (i := 2) (v := ?_) (at_list rfl) (by kernel_rfl) (by kernel_rfl) (by kernel_rfl) (fun _ _ _ h => h) (Or.inl ⟨by rfl, ?_⟩) (by assumption) ?_
          rotate_left
          · intro w hSw; (try dsimp only at hSw); first | (go_simp; done) | (go_simp; with_reducible rfl)
          try simp only [Act.put]
          try simp only [List.setIfInBounds_toArray]
          try simp only [List.set_cons_succ]
          try simp only [List.set_cons_zero]
          refine wpAnyH_take (i := 3) (v := ?_) (at_list rfl) (by kernel_rfl) (by kernel_rfl) (by kernel_rfl) (fun _ _ _ h => h) (Or.inl ⟨by rfl, ?_⟩) (by assumption) ?_
          rotate_left
          · intro w hSw; (try dsimp only at hSw); first | (go_simp; done) | (go_simp; with_reducible rfl)
          try simp only [Act.put]
          try simp only [List.setIfInBounds_toArray]
          try simp only [List.set_cons_succ]
          try simp only [List.set_cons_zero]
          refine wpAnyH_take (i := 4) (v := ?_) (at_list rfl) (by kernel_rfl) (by kernel_rfl) (by kernel_rfl) (fun _ _ _ h => h) (Or.inl ⟨by rfl, ?_⟩) (by assumption) ?_
          rotate_left
          · intro w hSw; (try dsimp only at hSw); first | (go_simp; done) | (go_simp; with_reducible rfl)
          try simp only [Act.put]
          try simp only [List.setIfInBounds_toArray]
          try simp only [List.set_cons_succ]
          try simp only [List.set_cons_zero]
          refine wpAnyH_ready (rs := [5]) (by kernel_rfl) (by simp) ?_
          refine AllReadyH.cons (at_list rfl) (fun K hK => ?_) AllReadyH.nil
          go_simp
          refine (findMessage_any _ (P.take k) _ _ ((show MsgsAt 0 _ _ P from (unhide HH).below ((unhide HB).trans ((box_below hHeld).mono (unhide HB).size))).take hlt) (unhide HT)).mono ?_; rintro e w3 ⟨rfl, rfl⟩; dsimp only
          refine hK.out _ _ (hHeld) (fun hHeld => ?_)
          clear hK K
          try simp only [Act.put]
          try simp only [List.setIfInBounds_toArray]
          try simp only [List.set_cons_succ]
          try simp only [List.set_cons_zero]
          refine wpAnyH_take (i := 6) (v := ?_) (at_list rfl) (by kernel_rfl) (by kernel_rfl) (by kernel_rfl) (fun _ _ _ h => h) (Or.inl ⟨by rfl, ?_⟩) (by assumption) ?_
          rotate_left
          · intro w hSw; (try dsimp only at hSw); first | (go_simp; done) | (go_simp; with_reducible rfl)
          try simp only [Act.put]
          try simp only [List.setIfInBounds_toArray]
          try simp only [List.set_cons_succ]
          try simp only [List.set_cons_zero]
          refine wpAnyH_done (by kernel_rfl) ?_ _
          refine NoPanic.normal ?_
          go_wp2
          refine wp_region_noPanic ?_
          refine wp_region_held_drew (S := fun w' => Below (wr.heap.size + 1) (wr.alloc (.cells #[.int .i64 (mgAt P k).1.pl, .int .i64 (idNum (mgAt P k).1.id), .int .i64 (mgAt P k).1.sz, .slice va (mgAt P k).1.sigs.length vcap] 82)) w') (by kernel_rfl) (by exact (Below.drew (by assumption))) (fun hHeld => ?_)
          refine wpAnyH_take (i := 0) (v := ?_) (at_list rfl) (by kernel_rfl) (by kernel_rfl) (by kernel_rfl) (fun _ _ _ h => h) (Or.inl ⟨by rfl, ?_⟩) (by assumption) ?_
          rotate_left
          · intro w hSw; (try dsimp only at hSw); first | (go_simp; done) | (go_simp; with_reducible rfl)
          try simp only [Act.put]
          try simp only [List.setIfInBounds_toArray]
          try simp only [List.set_cons_succ]
          try simp only [List.set_cons_zero]
          refine wpAnyH_take (i := 1) (v := ?_) (at_list rfl) (by kernel_rfl) (by kernel_rfl) (by kernel_rfl) (fun _ _ _ h => h) (Or.inl ⟨by rfl, ?_⟩) (by assumption) ?_
          rotate_left
          · intro w hSw; (try dsimp only at hSw); first | (go_simp; done) | (go_simp; with_reducible rfl)
          try simp only [Act.put]
          try simp only [List.setIfInBounds_toArray]
          try simp only [List.set_cons_succ]
          try simp only [List.set_cons_zero]
          refine wpAnyH_take (i := 2) (v := ?_) (at_list rfl) (by kernel_rfl) (by kernel_rfl) (by kernel_rfl) (fun _ _ _ h => h) (Or.inl ⟨by rfl, ?_⟩) (by assumption) ?_
          rotate_left
          · intro w hSw; (try dsimp only at hSw); first | (go_simp; done) | (go_simp; with_reducible rfl)
          try simp only [Act.put]
          try simp only [List.setIfInBounds_toArray]
          try simp only [List.set_cons_succ]
          try simp only [List.set_cons_zero]
          refine wpAnyH_take (i := 3) (v := ?_) (at_list rfl) (by kernel_rfl) (by kernel_rfl) (by kernel_rfl) (fun _ _ _ h => h) (Or.inl ⟨by rfl, ?_⟩) (by assumption) ?_
          rotate_left
          · intro w hSw; (try dsimp only at hSw); first | (go_simp; done) | (go_simp; with_reducible rfl)
          try simp only [Act.put]
          try simp only [List.setIfInBounds_toArray]
          try simp only [List.set_cons_succ]
          try simp only [List.set_cons_zero]
          refine wpAnyH_done (by kernel_rfl) ?_ _
          refine NoPanic.normal ?_
          go_wp2
          go_ret2
          have hmE : mE (P.map Prod.fst) k = 3 := by rw [mE, if_pos (unhide HTB)]
          have hx : errDbIx (P.map Prod.fst) = k := firstIx_is (unhide HN) (by simpa using hlt) (by rw [hmE]; rfl)
          exact ⟨by rw [(errDb_is hx (by simpa using hlt)).1, (errDb_is hx (by simpa using hlt)).2, hmE, mP, if_pos (unhide HTB), mAt_fst]; rfl, (unhide HB).trans ((box_below (by assumption)).mono (unhide HB).size)⟩
        | false =>
          have hf0 : findM (P.take k) (idNum (mgAt P k).1.id) < 0 := by
            rcases Int.lt_or_le (findM (P.take k) (idNum (mgAt P k).1.id)) 0 with h' | h'
            · exact h'
            · rw [htw.1 h'] at htb; cases htb
          have HTB := hide htb
          clear htw htb
          go_wp2
          clear c0 c1 c2 c3
          refine wp_region_noPanic ?_
          refine wp_region_held_drew (S := fun w' => Below (wr.heap.size + 1) (wr.alloc (.cells #[.int .i64 (mgAt P k).1.pl, .int .i64 (idNum (mgAt P k).1.id), .int .i64 (mgAt P k).1.sz, .slice va (mgAt P k).1.sigs.length vcap] 82)) w') (by kernel_rfl) (Below.refl _ _).drew (fun hHeld => ?_)
          refine wpAnyH_take (i := 0) (v := ?_) (at_list rfl) (by kernel_rfl) (by kernel_rfl) (by kernel_rfl) (fun _ _ _ h => h) (Or.inl ⟨by rfl, ?_⟩) (by assumption) ?_
          rotate_left
          · intro w hSw; (try dsimp only at hSw); first | (go_simp; done) | (go_simp; with_reducible rfl)
          try simp only [Act.put]
          try simp only [List.setIfInBounds_toArray]
          try simp only [List.set_cons_succ]
          try simp only [List.set_cons_zero]
          refine wpAnyH_take (i := 1) (v := ?_) (at_list rfl) (by kernel_rfl) (by kernel_rfl) (by kernel_rfl) (fun _ _ _ h => h) (Or.inl ⟨by rfl, ?_⟩) (by assumption) ?_
          rotate_left
          · intro w hSw; (try dsimp only at hSw); first | (go_simp; done) | (go_simp; with_reducible rfl)
          try simp only [Act.put]
          try simp only [List.setIfInBounds_toArray]
          try simp only [List.set_cons_succ]
          try simp only [List.set_cons_zero]
          refine wpAnyH_take (i := 2) (v := ?_) (at_list rfl) (by kernel_rfl) (by kernel_rfl) (by kernel_rfl) (fun _ _ _ h => h) (Or.inl ⟨by rfl, ?_⟩) (by assumption) ?_
          rotate_left
          · intro w hSw; (try dsimp only at hSw); first | (go_simp; done) | (go_simp; with_reducible rfl)
          try simp only [Act.put]
          try simp only [List.setIfInBounds_toArray]
          try simp only [List.set_cons_succ]
          try simp only [List.set_cons_zero]
          refine wpAnyH_take (i := 3) (v := ?_) (at_list rfl) (by kernel_rfl) (by kernel_rfl) (by kernel_rfl) (fun _ _ _ h => h) (Or.inl ⟨by rfl, ?_⟩) (by assumption) ?_
          rotate_left
          · intro w hSw; (try dsimp only at hSw); first | (go_simp; done) | (go_simp; with_reducible rfl)
          try simp only [Act.put]
          try simp only [List.setIfInBounds_toArray]
          try simp only [List.set_cons_succ]
          try simp only [List.set_cons_zero]
          refine wpAnyH_take (i := 4) (v := ?_) (at_list rfl) (by kernel_rfl) (by kernel_rfl) (by kernel_rfl) (fun _ _ _ h => h) (Or.inl ⟨by rfl, ?_⟩) (by assumption) ?_
          rotate_left
          · intro w hSw; (try dsimp only at hSw); first | (go_simp; done) | (go_simp; with_reducible rfl)
          try simp only [Act.put]
          try simp only [List.setIfInBounds_toArray]
          try simp only [List.set_cons_succ]
          try simp only [List.set_cons_zero]
          refine wpAnyH_ready (rs := [5]) (by kernel_rfl) (by simp) ?_
          refine AllReadyH.cons (at_list rfl) (fun K hK => ?_) AllReadyH.nil
          go_simp
          refine (findMessage_any _ (P.take k) _ _ ((show MsgsAt 0 _ _ P from (unhide HH).below ((unhide HB).trans ((box_below hHeld).mono (unhide HB).size))).take hlt) (unhide HT)).mono ?_; rintro e w3 ⟨rfl, rfl⟩; dsimp only
          refine hK.out _ _ (hHeld) (fun hHeld => ?_)
          clear hK K
          try simp only [Act.put]
          try simp only [List.setIfInBounds_toArray]
          try simp only [List.set_cons_succ]
          try simp only [List.set_cons_zero]
          refine wpAnyH_take (i := 6) (v := ?_) (at_list rfl) (by kernel_rfl) (by kernel_rfl) (by kernel_rfl) (fun _ _ _ h => h) (Or.inl ⟨by rfl, ?_⟩) (by assumption) ?_
          rotate_left
          · intro w hSw; (try dsimp only at hSw); first | (go_simp; done) | (go_simp; with_reducible rfl)
          try simp only [Act.put]
          try simp only [List.setIfInBounds_toArray]
          try simp only [List.set_cons_succ]
          try simp only [List.set_cons_zero]
          refine wpAnyH_done (by kernel_rfl) ?_ _
          refine NoPanic.normal ?_
          have hbx := hbox _ hHeld
          go_wp2_with fail
          refine (checkSignals_any _ _ (mgAt P k).1.sz _ (mgAt P k).1.sigs _ (ownsRow_below (unhide HSG) ((unhide HB).trans ((box_below (by assumption)).mono (unhide HB).size))) (unhide OKk).len (sigs_ok (unhide OKk)) (unhide OKk).sz0 (unhide OKk).sz1).mono ?_
          rintro e w4 ⟨rfl, hb4⟩
          have HB4 := hide ((unhide HB).trans ((box_below (box_next (by assumption) hb4)).mono (unhide HB).size))
          have hmE : mE (P.map Prod.fst) k = errSigsE (mgAt P k).1.sigs (mgAt P k).1.sz := by rw [mE, if_neg (by rw [unhide HTB]; simp), mAt_fst]
          have hmP : mP (P.map Prod.fst) k = errSigsP (mgAt P k).1.sigs (mgAt P k).1.sz := by rw [mP, if_neg (by rw [unhide HTB]; simp), mAt_fst]
          have HME := hide hmE
          have HMP := hide hmP
          clear hmE hmP hb4 hbx
          by_cases hz2 : errSigsE (mgAt P k).1.sigs (mgAt P k).1.sz ≠ 0
          · have hz3 : (errSigsE (mgAt P k).1.sigs (mgAt P k).1.sz != 0) = true := by simpa using hz2
            have HZ := hide hz2
            clear hz2
            go_wp2
            go_ret2
            have hx : errDbIx (P.map Prod.fst) = k := firstIx_is (unhide HN) (by simpa using hlt) (by rw [unhide HME]; simpa using unhide HZ)
            exact ⟨by rw [(errDb_is hx (by simpa using hlt)).1, (errDb_is hx (by simpa using hlt)).2, unhide HME, unhide HMP]; rfl, unhide HB4⟩
          · have hz3 : (errSigsE (mgAt P k).1.sigs (mgAt P k).1.sz != 0) = false := by simpa using hz2
            have HZ := hide hz2
            clear hz2
            go_wp2
            go_roundw
            case rel => exact ⟨k + 1, by omega, by go_num, fun j hj => by
                by_cases e : j = k
                · subst e; rw [unhide HME]; simpa using unhide HZ
                · exact unhide HN j (by omega), unhide HB4⟩
            case measure => simp [intOf]; omega
      · go_wp2
        go_ret2
        have hx : errDbIx (P.map Prod.fst) = (P.map Prod.fst).length := firstIx_none (fun j hj => unhide HN j (by simp at hj; omega))
        exact ⟨by rw [(errDb_none hx).1, (errDb_none hx).2]; rfl, unhide HB⟩

end Go.Proofs.Ytoihlnjcgopdlab

namespace Go.Proofs.Ytoihlnjcgopdlab
open Go.RowKit

/-- P3: the error, and its place. -/
def chkE (s : ByteArray) : Int := if 320 < s.size then 1 else match pDb s 4 0 with | .inl _ => 2 | .inr M => errDbE M
def chkP (s : ByteArray) : Int := if 320 < s.size then 0 else match pDb s 4 0 with | .inl p => p | .inr M => errDbP M
theorem chk_long {s : ByteArray} (h : 320 < s.size) : chkE s = 1 ∧ chkP s = 0 := by rw [chkE, chkP, if_pos h, if_pos h]; exact ⟨rfl, rfl⟩
theorem chk_text {s : ByteArray} {p : Nat} (h : ¬ 320 < s.size) (hp : pDb s 4 0 = .inl p) : chkE s = 2 ∧ chkP s = p := by rw [chkE, chkP, if_neg h, if_neg h, hp]; exact ⟨rfl, rfl⟩
theorem chk_db {s : ByteArray} {M : List Mg} (h : ¬ 320 < s.size) (hp : pDb s 4 0 = .inr M) : chkE s = errDbE M ∧ chkP s = errDbP M := by rw [chkE, chkP, if_neg h, if_neg h, hp]; exact ⟨rfl, rfl⟩

theorem errDb_ok {M : List Mg} (h : errDbE M = 0) : errDbP M = 0 := by
  have hle := firstIx_le (fun n => decide (mE M n ≠ 0)) M.length
  by_cases h2 : errDbIx M < M.length
  · have := firstIx_yes (fun n => decide (mE M n ≠ 0)) M.length h2
    rw [(errDb_is rfl h2).1] at h
    simp only [decide_eq_true_eq] at this
    exact absurd h this
  · exact (errDb_none (by unfold errDbIx at h2 ⊢; omega)).2

/-- What soundMessages answers. -/
def SndOut (s : ByteArray) (e : Ending) (w' : World) : Prop :=
  (chkE s = 0 ∧ ∃ v P, e = .returned (.tuple #[v, .int .i64 0, .int .i64 0]) ∧ pDb s 4 0 = .inr (P.map Prod.fst) ∧ MsgsAt 0 w' v P ∧ P.length ≤ 4 ∧ ∀ x ∈ P, x.1.Ok) ∨
  (chkE s ≠ 0 ∧ e = .returned (.tuple #[.slice none 0 0, .int .i64 (chkE s), .int .i64 (chkP s)]))

set_option maxHeartbeats 400000 in
theorem soundMessages_any (s : ByteArray) (w : World) (hs : s.size ≤ maxLen) :
    Calls Try.prog 70 #[.string s] w fun e w' => SndOut s e w' ∧ Below w.heap.size w w' := by
  unfold maxLen at hs
  by_cases hlong : 320 < s.size
  · have HC := hide (chk_long hlong)
    go_enter Try.func70, Try.ntmps70
    go_wp2
    go_ret3
    refine ⟨.inr ⟨by rw [(unhide HC).1]; decide, ?_⟩, Below.refl _ _⟩
    rw [(unhide HC).1, (unhide HC).2]; rfl
  · go_enter Try.func70, Try.ntmps70
    go_wp2_with fail
    refine (readDatabase_any s _ (by omega)).mono ?_
    rintro e w1 ⟨hout, hb1⟩
    have HB1 := hide hb1
    clear hb1
    cases hpd : pDb s 4 0 with
    | inl p =>
      rw [DbOut, hpd] at hout
      dsimp only at hout
      subst hout
      have HC := hide (chk_text hlong hpd)
      clear hpd
      go_wp2
      go_ret3
      refine ⟨.inr ⟨by rw [(unhide HC).1]; decide, ?_⟩, unhide HB1⟩
      rw [(unhide HC).1, (unhide HC).2]; rfl
    | inr M =>
      rw [DbOut, hpd] at hout
      dsimp only at hout
      obtain ⟨v, P, q, rfl, rfl, hm, hl, hok⟩ := hout
      obtain ⟨sa, cap, rfl⟩ := ownsRow_form hm.1
      have HM := hide hm
      have HOK := hide hok
      have HPD := hide hpd
      have HC := hide (chk_db hlong hpd)
      clear hm hok hpd
      go_wp2_with fail
      refine (checkMessages_any _ P _ (unhide HM) hl (unhide HOK)).mono ?_
      rintro e w2 ⟨rfl, hb2⟩
      have HM2 := hide ((unhide HM).below hb2)
      have HB2 := hide ((unhide HB1).trans (hb2.mono (unhide HB1).size))
      clear hb2
      by_cases hz : errDbE (P.map Prod.fst) = 0
      · have hz2 : (errDbE (P.map Prod.fst) != 0) = false := by rw [hz]; rfl
        have HZ := hide hz
        clear hz
        go_wp2
        go_ret3
        exact ⟨.inl ⟨by rw [(unhide HC).1]; exact unhide HZ, _, P, rfl, unhide HPD, unhide HM2, hl, unhide HOK⟩, unhide HB2⟩
      · have hz2 : (errDbE (P.map Prod.fst) != 0) = true := by simpa using hz
        have HZ := hide hz
        clear hz
        go_wp2
        go_ret3
        refine ⟨.inr ⟨by rw [(unhide HC).1]; exact unhide HZ, ?_⟩, unhide HB2⟩
        rw [(unhide HC).1, (unhide HC).2]; rfl

theorem chk_ok {s : ByteArray} (h : chkE s = 0) : chkP s = 0 := by
  by_cases hl : 320 < s.size
  · exact (chk_long hl).2
  · cases hp : pDb s 4 0 with
    | inl p => rw [(chk_text hl hp).1] at h; omega
    | inr M => rw [(chk_db hl hp).2]; rw [(chk_db hl hp).1] at h; exact errDb_ok h

end Go.Proofs.Ytoihlnjcgopdlab

namespace Go.Proofs.Ytoihlnjcgopdlab
open Go.RowKit

theorem str_inj {a b : ByteArray} (h : a.toList = b.toList) : a = b := by
  rw [ByteArray.toList_eq, ByteArray.toList_eq] at h
  exact ByteArray.ext (Array.toList_inj.1 h)
theorem str_ne {a b : ByteArray} (h : ¬ a = b) : (a.toList == b.toList) = false := by
  rw [beq_eq_false_iff_ne]; exact fun e => h (str_inj e)

set_option maxRecDepth 100000 in
set_option maxHeartbeats 4000000 in
theorem rCheck_any (s : ByteArray) (w : World) (hs : s.size ≤ maxLen) :
    Calls Try.prog 23 #[.string s] w fun e w' => e = .returned (.tuple #[.int .i64 (chkE s), .int .i64 (chkP s)]) ∧ Below w.heap.size w w' := by
  unfold maxLen at hs
  by_cases hlong : 320 < s.size
  · have HC := hide (chk_long hlong)
    go_enter Try.func23, Try.ntmps23
    go_wp2
    go_ret2
    exact ⟨by rw [(unhide HC).1, (unhide HC).2]; rfl, Below.refl _ _⟩
  · have hd320 : decide ((320 : Int) < (s.size : Int)) = false := by simp; omega
    go_enter Try.func23, Try.ntmps23
    go_wp2_with fail
    refine (rRead_any s _ (by omega)).mono ?_
    rintro e w1 ⟨hout, hb1⟩
    have HB1 := hide hb1
    clear hb1
    cases hpd : pDb s 4 0 with
    | inl p =>
      rw [RDbOut, hpd] at hout
      dsimp only at hout
      subst hout
      have HC := hide (chk_text hlong hpd)
      clear hpd
      go_wp2
      go_ret2
      exact ⟨by rw [(unhide HC).1, (unhide HC).2]; rfl, unhide HB1⟩
    | inr M =>
      rw [RDbOut, hpd] at hout
      dsimp only at hout
      obtain ⟨v, P, q, rfl, rfl, hm, hl, hok⟩ := hout
      have HM := hide hm
      have HOK := hide hok
      have HC := hide (chk_db hlong hpd)
      clear hm hok hpd
      rcases (unhide HM).opened with ⟨rfl, a, c, rfl⟩ | ⟨g, cap, rfl, hg, hcap, hcm, hc⟩
      · go_wp2
        refine wp_loop_rounds 1 ?_
        rw [rounds_succ]
        go_wp2
        go_ret2
        exact ⟨by rw [(unhide HC).1, (unhide HC).2]; simp [errDbE, errDbP], unhide HB1⟩
      have HCC := hide hc
      unfold maxLen at hcm
      clear hc
      go_wp2
      go_loopw [7, 8, 9, 10] (fun i _ _ _ wr => ∃ k : Nat, k ≤ P.length ∧ i = .int .i64 k ∧ (∀ j, j < k → decide (mE (P.map Prod.fst) j ≠ 0) = false) ∧ Below w1.heap.size w1 wr) (fun i _ _ _ _ => P.length - (intOf i).toNat)
      case atStart => exact ⟨0, by omega, rfl, by intro j hj; omega, Below.refl _ _⟩
      case round =>
        obtain ⟨k, hk, rfl, hno, hb⟩ := hrel
        have HN := hide hno
        have HB := hide hb
        clear hno hb
        by_cases hlt : k < P.length
        · have ck := fun (wx : World) (h : Below w1.heap.size w1 wx) => rmcells4 (k := k) (unhide HCC) hg h hlt
          have hsg : RSigsAt w1 (mgAt P k).2 (mgAt P k).1.sigs := (unhide HM).2 _ (mgAt_mem hlt)
          obtain ⟨va, vcap, hva⟩ := ownsRow_form hsg
          rw [hva] at ck hsg
          have HSG := hide hsg
          have OKk := hide (unhide HOK _ (mgAt_mem hlt))
          clear hva hsg
          have hi0 : (0 : Int) ≤ (k : Int) := by omega
          have hi1 : (k : Int) < (P.length : Int) := by omega
          obtain ⟨wo, rfl⟩ : ∃ wo : World, wo = wr := ⟨_, rfl⟩
          go_wp2
          go_loopw [8] (fun i wr => ∃ m : Nat, m ≤ k ∧ i = .int .i64 m ∧ (∀ j, j < m → decide ((mAt (P.map Prod.fst) j).id = (mAt (P.map Prod.fst) k).id) = false) ∧ Below w1.heap.size w1 wr) (fun i _ => k - (intOf i).toNat)
          case atStart => exact ⟨0, by omega, rfl, by intro j hj; omega, unhide HB⟩
          case round =>
            obtain ⟨m, hm, rfl, hno2, hb2⟩ := hrel
            have HN2 := hide hno2
            clear hno2
            by_cases hlt2 : m < k
            · have cm := fun (wx : World) (h : Below w1.heap.size w1 wx) => (rmcells4 (k := m) (unhide HCC) hg h (by omega)).1
              have hj0 : (0 : Int) ≤ (m : Int) := by omega
              have hj1 : (m : Int) < (P.length : Int) := by omega
              go_wp2
              refine wp_region_noPanic ?_
              refine wp_region_held_drew (S := fun w' => Below w1.heap.size w1 w') (by kernel_rfl) hb2.drew (fun hHeld => ?_)
              clear hb2
              refine wpAnyH_take (i := 0) (v := ?_) (at_list rfl) (by kernel_rfl) (by kernel_rfl) (by kernel_rfl) (fun _ _ _ h => h) (Or.inl ⟨by rfl, ?_⟩) (by assumption) ?_
              rotate_left
              · intro w hSw; (try dsimp only at hSw); first | (go_simp; done) | (go_simp; with_reducible rfl)
              try simp only [Act.put]
              try simp only [List.setIfInBounds_toArray]
              try simp only [List.set_cons_succ]
              try simp only [List.set_cons_zero]
              refine wpAnyH_take (i := 1) (v := ?_) (at_list rfl) (by kernel_rfl) (by kernel_rfl) (by kernel_rfl) (fun _ _ _ h => h) (Or.inl ⟨by rfl, ?_⟩) (by assumption) ?_
              rotate_left
              · intro w hSw; (try dsimp only at hSw); first | (go_simp; done) | (go_simp; with_reducible rfl)
              try simp only [Act.put]
              try simp only [List.setIfInBounds_toArray]
              try simp only [List.set_cons_succ]
              try simp only [List.set_cons_zero]
              refine wpAnyH_take (i := 2) (v := ?_) (at_list rfl) (by kernel_rfl) (by kernel_rfl) (by kernel_rfl) (fun _ _ _ h => h) (Or.inl ⟨by rfl, ?_⟩) (by assumption) ?_
              rotate_left
              · intro w hSw; (try dsimp only at hSw); first | (go_simp; done) | (go_simp; with_reducible rfl)
              try simp only [Act.put]
              try simp only [List.setIfInBounds_toArray]
              try simp only [List.set_cons_succ]
              try simp only [List.set_cons_zero]
              refine wpAnyH_take (i := 3) (v := ?_) (at_list rfl) (by kernel_rfl) (by kernel_rfl) (by kernel_rfl) (fun _ _ _ h => h) (Or.inl ⟨by rfl, ?_⟩) (by assumption) ?_
              rotate_left
              · intro w hSw; (try dsimp only at hSw); first | (go_simp; done) | (go_simp; with_reducible rfl)
              try simp only [Act.put]
              try simp only [List.setIfInBounds_toArray]
              try simp only [List.set_cons_succ]
              try simp only [List.set_cons_zero]
              refine wpAnyH_take (i := 4) (v := ?_) (at_list rfl) (by kernel_rfl) (by kernel_rfl) (by kernel_rfl) (fun _ _ _ h => h) (Or.inl ⟨by rfl, ?_⟩) (by assumption) ?_
              rotate_left
              · intro w hSw; (try dsimp only at hSw); first | (go_simp; done) | (go_simp; with_reducible rfl)
              try simp only [Act.put]
              try simp only [List.setIfInBounds_toArray]
              try simp only [List.set_cons_succ]
              try simp only [List.set_cons_zero]
              refine wpAnyH_take (i := 5) (v := ?_) (at_list rfl) (by kernel_rfl) (by kernel_rfl) (by kernel_rfl) (fun _ _ _ h => h) (Or.inl ⟨by rfl, ?_⟩) (by assumption) ?_
              rotate_left
              · intro w hSw; (try dsimp only at hSw); first | (go_simp; done) | (go_simp; with_reducible rfl)
              try simp only [Act.put]
              try simp only [List.setIfInBounds_toArray]
              try simp only [List.set_cons_succ]
              try simp only [List.set_cons_zero]
              refine wpAnyH_take (i := 6) (v := ?_) (at_list rfl) (by kernel_rfl) (by kernel_rfl) (by kernel_rfl) (fun _ _ _ h => h) (Or.inl ⟨by rfl, ?_⟩) (by assumption) ?_
              rotate_left
              · intro w hSw; (try dsimp only at hSw); first | (go_simp; done) | (go_simp; with_reducible rfl)
              try simp only [Act.put]
              try simp only [List.setIfInBounds_toArray]
              try simp only [List.set_cons_succ]
              try simp only [List.set_cons_zero]
              refine wpAnyH_take (i := 7) (v := ?_) (at_list rfl) (by kernel_rfl) (by kernel_rfl) (by kernel_rfl) (fun _ _ _ h => h) (Or.inl ⟨by rfl, ?_⟩) (by assumption) ?_
              rotate_left
              · intro w hSw; (try dsimp only at hSw); first | (go_simp; done) | (go_simp; with_reducible rfl)
              try simp only [Act.put]
              try simp only [List.setIfInBounds_toArray]
              try simp only [List.set_cons_succ]
              try simp only [List.set_cons_zero]
              refine wpAnyH_take (i := 8) (v := ?_) (at_list rfl) (by kernel_rfl) (by kernel_rfl) (by kernel_rfl) (fun _ _ _ h => h) (Or.inl ⟨by rfl, ?_⟩) (by assumption) ?_
              rotate_left
              · intro w hSw; (try dsimp only at hSw); first | (go_simp; done) | (go_simp; with_reducible rfl)
              try simp only [Act.put]
              try simp only [List.setIfInBounds_toArray]
              try simp only [List.set_cons_succ]
              try simp only [List.set_cons_zero]
              refine wpAnyH_take (i := 9) (v := ?_) (at_list rfl) (by kernel_rfl) (by kernel_rfl) (by kernel_rfl) (fun _ _ _ h => h) (Or.inl ⟨by rfl, ?_⟩) (by assumption) ?_
              rotate_left
              · intro w hSw; (try dsimp only at hSw); first | (go_simp; done) | (go_simp; with_reducible rfl)
              try simp only [Act.put]
              try simp only [List.setIfInBounds_toArray]
              try simp only [List.set_cons_succ]
              try simp only [List.set_cons_zero]
              by_cases hid : (mgAt P m).1.id = (mgAt P k).1.id
              · have hb3 : ((mgAt P m).1.id.toList == (mgAt P k).1.id.toList) = true := by rw [hid]; simp
                have HID := hide hid
                clear hid
                refine wpAnyH_take (i := 10) (v := ?_) (at_list rfl) (by kernel_rfl) (by kernel_rfl) (by kernel_rfl) (fun _ _ _ h => h) (Or.inl ⟨by rfl, ?_⟩) (by assumption) ?_
                rotate_left
                · intro w hSw; (try dsimp only at hSw); first | (go_simp; done) | (go_simp; with_reducible rfl)
                try simp only [Act.put]
                try simp only [List.setIfInBounds_toArray]
                try simp only [List.set_cons_succ]
                try simp only [List.set_cons_zero]
                refine wpAnyH_done (by kernel_rfl) ?_ _
                refine NoPanic.normal ?_
                clear cm hb3
                go_wp2
                refine wp_region_noPanic ?_
                refine wp_region_held_drew (S := fun w' => Below w1.heap.size w1 w') (by kernel_rfl) (by exact (Below.drew (by assumption))) (fun hHeld => ?_)
                refine wpAnyH_take (i := 0) (v := ?_) (at_list rfl) (by kernel_rfl) (by kernel_rfl) (by kernel_rfl) (fun _ _ _ h => h) (Or.inl ⟨by rfl, ?_⟩) (by assumption) ?_
                rotate_left
                · intro w hSw; (try dsimp only at hSw); first | (go_simp; done) | (go_simp; with_reducible rfl)
                try simp only [Act.put]
                try simp only [List.setIfInBounds_toArray]
                try simp only [List.set_cons_succ]
                try simp only [List.set_cons_zero]
                refine wpAnyH_take (i := 1) (v := ?_) (at_list rfl) (by kernel_rfl) (by kernel_rfl) (by kernel_rfl) (fun _ _ _ h => h) (Or.inl ⟨by rfl, ?_⟩) (by assumption) ?_
                rotate_left
                · intro w hSw; (try dsimp only at hSw); first | (go_simp; done) | (go_simp; with_reducible rfl)
                try simp only [Act.put]
                try simp only [List.setIfInBounds_toArray]
                try simp only [List.set_cons_succ]
                try simp only [List.set_cons_zero]
                refine wpAnyH_take (i := 2) (v := ?_) (at_list rfl) (by kernel_rfl) (by kernel_rfl) (by kernel_rfl) (fun _ _ _ h => h) (Or.inl ⟨by rfl, ?_⟩) (by assumption) ?_
                rotate_left
                · intro w hSw; (try dsimp only at hSw); first | (go_simp; done) | (go_simp; with_reducible rfl)
                try simp only [Act.put]
                try simp only [List.setIfInBounds_toArray]
                try simp only [List.set_cons_succ]
                try simp only [List.set_cons_zero]
                refine wpAnyH_take (i := 3) (v := ?_) (at_list rfl) (by kernel_rfl) (by kernel_rfl) (by kernel_rfl) (fun _ _ _ h => h) (Or.inl ⟨by rfl, ?_⟩) (by assumption) ?_
                rotate_left
                · intro w hSw; (try dsimp only at hSw); first | (go_simp; done) | (go_simp; with_reducible rfl)
                try simp only [Act.put]
                try simp only [List.setIfInBounds_toArray]
                try simp only [List.set_cons_succ]
                try simp only [List.set_cons_zero]
                refine wpAnyH_take (i := 4) (v := ?_) (at_list rfl) (by kernel_rfl) (by kernel_rfl) (by kernel_rfl) (fun _ _ _ h => h) (Or.inl ⟨by rfl, ?_⟩) (by assumption) ?_
                rotate_left
                · intro w hSw; (try dsimp only at hSw); first | (go_simp; done) | (go_simp; with_reducible rfl)
                try simp only [Act.put]
                try simp only [List.setIfInBounds_toArray]
                try simp only [List.set_cons_succ]
                try simp only [List.set_cons_zero]
                refine wpAnyH_take (i := 5) (v := ?_) (at_list rfl) (by kernel_rfl) (by kernel_rfl) (by kernel_rfl) (fun _ _ _ h => h) (Or.inl ⟨by rfl, ?_⟩) (by assumption) ?_
                rotate_left
                · intro w hSw; (try dsimp only at hSw); first | (go_simp; done) | (go_simp; with_reducible rfl)
                try simp only [Act.put]
                try simp only [List.setIfInBounds_toArray]
                try simp only [List.set_cons_succ]
                try simp only [List.set_cons_zero]
                refine wpAnyH_take (i := 6) (v := ?_) (at_list rfl) (by kernel_rfl) (by kernel_rfl) (by kernel_rfl) (fun _ _ _ h => h) (Or.inl ⟨by rfl, ?_⟩) (by assumption) ?_
                rotate_left
                · intro w hSw; (try dsimp only at hSw); first | (go_simp; done) | (go_simp; with_reducible rfl)
                try simp only [Act.put]
                try simp only [List.setIfInBounds_toArray]
                try simp only [List.set_cons_succ]
                try simp only [List.set_cons_zero]
                refine wpAnyH_done (by kernel_rfl) ?_ _
                refine NoPanic.normal ?_
                go_wp2
                go_ret2
                have htw : twice (P.map Prod.fst) k = true := anyIx_is (unhide HN2) hlt2 (by rw [mAt_fst, mAt_fst]; simpa using unhide HID)
                have hmE : mE (P.map Prod.fst) k = 3 := by rw [mE, if_pos htw]
                have hx : errDbIx (P.map Prod.fst) = k := firstIx_is (unhide HN) (by simpa using hlt) (by rw [hmE]; rfl)
                exact ⟨by rw [(unhide HC).1, (unhide HC).2, (errDb_is hx (by simpa using hlt)).1, (errDb_is hx (by simpa using hlt)).2, hmE, mP, if_pos htw, mAt_fst]; rfl, (unhide HB1).trans (Below.mono (by assumption) (unhide HB1).size)⟩
              · have hb3 : ((mgAt P m).1.id.toList == (mgAt P k).1.id.toList) = false := str_ne hid
                have HID := hide hid
                clear hid
                refine wpAnyH_take (i := 10) (v := ?_) (at_list rfl) (by kernel_rfl) (by kernel_rfl) (by kernel_rfl) (fun _ _ _ h => h) (Or.inl ⟨by rfl, ?_⟩) (by assumption) ?_
                rotate_left
                · intro w hSw; (try dsimp only at hSw); first | (go_simp; done) | (go_simp; with_reducible rfl)
                try simp only [Act.put]
                try simp only [List.setIfInBounds_toArray]
                try simp only [List.set_cons_succ]
                try simp only [List.set_cons_zero]
                refine wpAnyH_done (by kernel_rfl) ?_ _
                refine NoPanic.normal ?_
                clear cm hb3
                go_wp2
                go_roundw
                case rel => exact ⟨m + 1, by omega, by go_num, fun j hj => by
                    by_cases e : j = m
                    · subst e; rw [mAt_fst, mAt_fst]; simpa using unhide HID
                    · exact unhide HN2 j (by omega), by assumption⟩
                case measure => simp [intOf]; omega
            · have htw : twice (P.map Prod.fst) k = false := anyIx_none (fun j hj => unhide HN2 j (by omega))
              have HTW := hide htw
              have HB2 := hide hb2
              have hmk : m = k := by omega
              subst hmk
              clear htw
              obtain ⟨L, hLL⟩ : ∃ L, L = (mgAt P m).1.sigs := ⟨_, rfl⟩
              have HLL := hide hLL
              have hmE : mE (P.map Prod.fst) m = errSigsE L (mgAt P m).1.sz := by rw [mE, if_neg (by rw [unhide HTW]; simp), mAt_fst, hLL]
              have hmP : mP (P.map Prod.fst) m = errSigsP L (mgAt P m).1.sz := by rw [mP, if_neg (by rw [unhide HTW]; simp), mAt_fst, hLL]
              have HME := hide hmE
              have HMP := hide hmP
              clear hmE hmP
              rw [← hLL] at ck
              have HSG2 : Hid (RSigsAt w1 (Value.slice va L.length vcap) L) := hide (by have := unhide HSG; rw [← hLL] at this; exact this)
              have hlen : L.length ≤ 8 := by rw [hLL]; exact (unhide OKk).len
              have HSO : Hid (∀ k, k < L.length → (sgAt L k).Ok) := hide (by rw [hLL]; exact sigs_ok (unhide OKk))
              clear hLL hb2
              have ckw := ck _ (unhide HB2)
              go_wp2
              clear ckw
              obtain ⟨wo2, rfl⟩ : ∃ wo : World, wo = wr := ⟨_, rfl⟩
              go_loopw [9, 10] (fun i _ wr => ∃ n : Nat, n ≤ L.length ∧ i = .int .i64 n ∧ (∀ j, j < n → decide (errAt L (mgAt P m).1.sz j ≠ 0) = false) ∧ Below w1.heap.size w1 wr) (fun i _ _ => L.length - (intOf i).toNat)
              case atStart => exact ⟨0, by omega, rfl, by intro j hj; omega, unhide HB2⟩
              case round =>
                obtain ⟨n, hn, rfl, hno3, hb3⟩ := hrel
                have HN3 := hide hno3
                have HB3 := hide hb3
                have ckw := ck _ hb3
                clear hno3 hb3
                by_cases hlt3 : n < L.length
                · go_wp2_with fail
                  refine (rWrong_any (mgAt P m).1.id (mgAt P m).1.sz _ _ L n _ (ownsRow_below (unhide HSG2) (unhide HB3)) hlen hlt3 (unhide HSO) (unhide OKk).sz0 (unhide OKk).sz1).mono ?_
                  rintro e w4 ⟨rfl, hb4⟩
                  have hb4' := (unhide HB3).trans (hb4.mono (unhide HB3).size)
                  rw [← errAt_eq L _ n hlt3]
                  clear hb4 ckw
                  by_cases hz : errAt L (mgAt P m).1.sz n = 0
                  · have hz2 : (errAt L (mgAt P m).1.sz n != 0) = false := by rw [hz]; rfl
                    have HZ := hide hz
                    clear hz
                    go_wp2
                    go_roundw
                    case rel => exact ⟨n + 1, by omega, by go_num, fun j hj => by
                        by_cases e : j = n
                        · subst e; simpa using unhide HZ
                        · exact unhide HN3 j (by omega), hb4'⟩
                    case measure => simp [intOf]; omega
                  · have hz2 : (errAt L (mgAt P m).1.sz n != 0) = true := by simpa using hz
                    have HZ := hide hz
                    clear hz
                    rcases (unhide HSG2).opened with ⟨hnil, _⟩ | ⟨g2, cap2, hv2, hg2, hcap2, hcm2, hc2⟩
                    · rw [hnil] at hlt3; simp at hlt3
                    cases hv2
                    have HC2 := hide hc2
                    clear hc2
                    have cn := fun (wx : World) (h : Below w1.heap.size w1 wx) => (rcells7 (k := n) (unhide HC2) hg2 h hlt3).2.2.2.2.2.2
                    have hk0 : (0 : Int) ≤ (n : Int) := by omega
                    have hk1 : (n : Int) < (L.length : Int) := by omega
                    go_wp2
                    refine wp_region_noPanic ?_
                    refine wp_region_held_drew (S := fun w' => Below w1.heap.size w1 w') (by kernel_rfl) hb4'.drew (fun hHeld => ?_)
                    refine wpAnyH_take (i := 0) (v := ?_) (at_list rfl) (by kernel_rfl) (by kernel_rfl) (by kernel_rfl) (fun _ _ _ h => h) (Or.inl ⟨by rfl, ?_⟩) (by assumption) ?_
                    rotate_left
                    · intro w hSw; (try dsimp only at hSw); first | (go_simp; done) | (go_simp; with_reducible rfl)
                    try simp only [Act.put]
                    try simp only [List.setIfInBounds_toArray]
                    try simp only [List.set_cons_succ]
                    try simp only [List.set_cons_zero]
                    refine wpAnyH_take (i := 1) (v := ?_) (at_list rfl) (by kernel_rfl) (by kernel_rfl) (by kernel_rfl) (fun _ _ _ h => h) (Or.inl ⟨by rfl, ?_⟩) (by assumption) ?_
                    rotate_left
                    · intro w hSw; (try dsimp only at hSw); first | (go_simp; done) | (go_simp; with_reducible rfl)
                    try simp only [Act.put]
                    try simp only [List.setIfInBounds_toArray]
                    try simp only [List.set_cons_succ]
                    try simp only [List.set_cons_zero]
                    refine wpAnyH_take (i := 2) (v := ?_) (at_list rfl) (by kernel_rfl) (by kernel_rfl) (by kernel_rfl) (fun _ _ _ h => h) (Or.inl ⟨by rfl, ?_⟩) (by assumption) ?_
                    rotate_left
                    · intro w hSw; (try dsimp only at hSw); first | (go_simp; done) | (go_simp; with_reducible rfl)
                    try simp only [Act.put]
                    try simp only [List.setIfInBounds_toArray]
                    try simp only [List.set_cons_succ]
                    try simp only [List.set_cons_zero]
                    refine wpAnyH_take (i := 3) (v := ?_) (at_list rfl) (by kernel_rfl) (by kernel_rfl) (by kernel_rfl) (fun _ _ _ h => h) (Or.inl ⟨by rfl, ?_⟩) (by assumption) ?_
                    rotate_left
                    · intro w hSw; (try dsimp only at hSw); first | (go_simp; done) | (go_simp; with_reducible rfl)
                    try simp only [Act.put]
                    try simp only [List.setIfInBounds_toArray]
                    try simp only [List.set_cons_succ]
                    try simp only [List.set_cons_zero]
                    refine wpAnyH_take (i := 4) (v := ?_) (at_list rfl) (by kernel_rfl) (by kernel_rfl) (by kernel_rfl) (fun _ _ _ h => h) (Or.inl ⟨by rfl, ?_⟩) (by assumption) ?_
                    rotate_left
                    · intro w hSw; (try dsimp only at hSw); first | (go_simp; done) | (go_simp; with_reducible rfl)
                    try simp only [Act.put]
                    try simp only [List.setIfInBounds_toArray]
                    try simp only [List.set_cons_succ]
                    try simp only [List.set_cons_zero]
                    refine wpAnyH_take (i := 5) (v := ?_) (at_list rfl) (by kernel_rfl) (by kernel_rfl) (by kernel_rfl) (fun _ _ _ h => h) (Or.inl ⟨by rfl, ?_⟩) (by assumption) ?_
                    rotate_left
                    · intro w hSw; (try dsimp only at hSw); first | (go_simp; done) | (go_simp; with_reducible rfl)
                    try simp only [Act.put]
                    try simp only [List.setIfInBounds_toArray]
                    try simp only [List.set_cons_succ]
                    try simp only [List.set_cons_zero]
                    refine wpAnyH_take (i := 6) (v := ?_) (at_list rfl) (by kernel_rfl) (by kernel_rfl) (by kernel_rfl) (fun _ _ _ h => h) (Or.inl ⟨by rfl, ?_⟩) (by assumption) ?_
                    rotate_left
                    · intro w hSw; (try dsimp only at hSw); first | (go_simp; done) | (go_simp; with_reducible rfl)
                    try simp only [Act.put]
                    try simp only [List.setIfInBounds_toArray]
                    try simp only [List.set_cons_succ]
                    try simp only [List.set_cons_zero]
                    refine wpAnyH_take (i := 7) (v := ?_) (at_list rfl) (by kernel_rfl) (by kernel_rfl) (by kernel_rfl) (fun _ _ _ h => h) (Or.inl ⟨by rfl, ?_⟩) (by assumption) ?_
                    rotate_left
                    · intro w hSw; (try dsimp only at hSw); first | (go_simp; done) | (go_simp; with_reducible rfl)
                    try simp only [Act.put]
                    try simp only [List.setIfInBounds_toArray]
                    try simp only [List.set_cons_succ]
                    try simp only [List.set_cons_zero]
                    refine wpAnyH_take (i := 8) (v := ?_) (at_list rfl) (by kernel_rfl) (by kernel_rfl) (by kernel_rfl) (fun _ _ _ h => h) (Or.inl ⟨by rfl, ?_⟩) (by assumption) ?_
                    rotate_left
                    · intro w hSw; (try dsimp only at hSw); first | (go_simp; done) | (go_simp; with_reducible rfl)
                    try simp only [Act.put]
                    try simp only [List.setIfInBounds_toArray]
                    try simp only [List.set_cons_succ]
                    try simp only [List.set_cons_zero]
                    refine wpAnyH_take (i := 9) (v := ?_) (at_list rfl) (by kernel_rfl) (by kernel_rfl) (by kernel_rfl) (fun _ _ _ h => h) (Or.inl ⟨by rfl, ?_⟩) (by assumption) ?_
                    rotate_left
                    · intro w hSw; (try dsimp only at hSw); first | (go_simp; done) | (go_simp; with_reducible rfl)
                    try simp only [Act.put]
                    try simp only [List.setIfInBounds_toArray]
                    try simp only [List.set_cons_succ]
                    try simp only [List.set_cons_zero]
                    refine wpAnyH_take (i := 10) (v := ?_) (at_list rfl) (by kernel_rfl) (by kernel_rfl) (by kernel_rfl) (fun _ _ _ h => h) (Or.inl ⟨by rfl, ?_⟩) (by assumption) ?_
                    rotate_left
                    · intro w hSw; (try dsimp only at hSw); first | (go_simp; done) | (go_simp; with_reducible rfl)
                    try simp only [Act.put]
                    try simp only [List.setIfInBounds_toArray]
                    try simp only [List.set_cons_succ]
                    try simp only [List.set_cons_zero]
                    refine wpAnyH_take (i := 11) (v := ?_) (at_list rfl) (by kernel_rfl) (by kernel_rfl) (by kernel_rfl) (fun _ _ _ h => h) (Or.inl ⟨by rfl, ?_⟩) (by assumption) ?_
                    rotate_left
                    · intro w hSw; (try dsimp only at hSw); first | (go_simp; done) | (go_simp; with_reducible rfl)
                    try simp only [Act.put]
                    try simp only [List.setIfInBounds_toArray]
                    try simp only [List.set_cons_succ]
                    try simp only [List.set_cons_zero]
                    refine wpAnyH_done (by kernel_rfl) ?_ _
                    refine NoPanic.normal ?_
                    go_wp2
                    go_ret2
                    have hx3 : errIx L (mgAt P m).1.sz = n := firstIx_is (unhide HN3) hlt3 (by simpa using unhide HZ)
                    have hx : errDbIx (P.map Prod.fst) = m := firstIx_is (unhide HN) (by simpa using hlt) (by rw [unhide HME, (errSigs_is hx3 hlt3).1]; simpa using unhide HZ)
                    exact ⟨by rw [(unhide HC).1, (unhide HC).2, (errDb_is hx (by simpa using hlt)).1, (errDb_is hx (by simpa using hlt)).2, unhide HME, unhide HMP, (errSigs_is hx3 hlt3).1, (errSigs_is hx3 hlt3).2]; rfl, (unhide HB1).trans (Below.mono (by assumption) (unhide HB1).size)⟩
                · go_wp2
                  go_roundw
                  case rel => exact ⟨m + 1, by omega, by go_num, fun j hj => by
                      by_cases e : j = m
                      · subst e
                        have hx3 : errIx L (mgAt P j).1.sz = L.length := firstIx_none (fun j hj => unhide HN3 j (by omega))
                        rw [unhide HME, (errSigs_none hx3).1]; rfl
                      · exact unhide HN j (by omega), unhide HB3⟩
                  case measure => simp [intOf]; omega
        · go_wp2
          go_ret2
          have hx : errDbIx (P.map Prod.fst) = (P.map Prod.fst).length := firstIx_none (fun j hj => unhide HN j (by simp at hj; omega))
          exact ⟨by rw [(unhide HC).1, (unhide HC).2, (errDb_none hx).1, (errDb_none hx).2]; rfl, (unhide HB1).trans ((unhide HB).mono (unhide HB1).size)⟩

end Go.Proofs.Ytoihlnjcgopdlab

namespace Go.Proofs.Ytoihlnjcgopdlab
open Go.RowKit

/-- Is a signal of this role active, if the multiplexor's value is c? -/
def activeB (rl c : Int) : Bool := !isDigB rl || decide (rl - 48 = c)

/-- Half of what n bits can hold. -/
def half (ln : Int) : Int := 2 ^ (ln.toNat - 1)
theorem half_pos (ln : Int) : 1 ≤ half ln := by
  have : (0 : Int) < 2 ^ (ln.toNat - 1) := Int.pow_pos (by omega)
  unfold half; omega
theorem half_le (ln : Int) (h : ln ≤ 32) : half ln ≤ 2147483648 := by
  unfold half
  have h1 : (2 : Nat) ^ (ln.toNat - 1) ≤ 2 ^ 31 := Nat.pow_le_pow_right (by omega) (by omega)
  have e : (2 : Nat) ^ 31 = 2147483648 := rfl
  rw [e] at h1
  have e2 : ((2 : Int) ^ (ln.toNat - 1)) = (((2 : Nat) ^ (ln.toNat - 1) : Nat) : Int) := by simp
  rw [e2]; omega
theorem pow_half (ln : Int) (h : 1 ≤ ln) : (2 : Int) ^ ln.toNat = 2 * half ln := by
  unfold half
  obtain ⟨n, hn⟩ : ∃ n, ln.toNat = n + 1 := ⟨ln.toNat - 1, by omega⟩
  rw [hn, Nat.add_sub_cancel, Int.pow_succ, Int.mul_comm]

/-- Can a signal of this kind and length hold v? -/
def fitsB (kd ln v : Int) : Bool := if kd = 115 then decide (-(half ln) ≤ v) && decide (v < half ln) else decide (0 ≤ v) && decide (v < 2 * half ln)


theorem pow_half2 (ln : Int) : (2 : Int) ^ (ln.toNat - 1) = half ln := rfl

/-- What is laid of a value, as the document's reader has it. -/
def natural (ln v : Int) : Int := if v < 0 then v + 2 * half ln else v

theorem fitsB_bounds {kd ln v : Int} (h : fitsB kd ln v = true) : -(half ln) ≤ v ∧ v < 2 * half ln := by
  have := half_pos ln
  unfold fitsB at h
  split at h
  · simp at h; omega
  · simp at h; omega

theorem div_shift (x q : Int) (k : Nat) : (x + 2 ^ (k + 1) * q) / 2 ^ k = x / 2 ^ k + 2 * q := by
  have hp : (2 : Int) ^ k ≠ 0 := Int.ne_of_gt (Int.pow_pos (by omega))
  rw [Int.pow_succ, Int.mul_assoc, Int.add_mul_ediv_left _ _ hp]

theorem natural_bit (ln v : Int) (k : Nat) (h0 : 1 ≤ ln) (h1 : ln ≤ 32) (hk : (k : Int) < ln) (hlo : -(half ln) ≤ v) (hhi : v < 2 * half ln) :
    0 ≤ natural ln v ∧ natural ln v < 2 * half ln ∧ natural ln v / 2 ^ k % 2 = (bitv v k : Int) := by
  have hp := half_pos ln
  have hu := half_le ln h1
  unfold natural bitv
  split
  · rename_i hv
    refine ⟨by omega, by omega, ?_⟩
    have e1 : v % 18446744073709551616 = v + 18446744073709551616 := by omega
    rw [e1]
    have hpw := pow_half ln h0
    obtain ⟨n, hn⟩ : ∃ n : Nat, ln.toNat = k + 1 + n := ⟨ln.toNat - (k + 1), by omega⟩
    have e2 : v + 18446744073709551616 = (v + 2 * half ln) + 2 ^ (k + 1) * (2 ^ (63 - k) - 2 ^ n) := by
      have a1 : (2 : Int) ^ (k + 1) * 2 ^ (63 - k) = 18446744073709551616 := by
        rw [← Int.pow_add, show k + 1 + (63 - k) = 64 by omega]; rfl
      have a2 : (2 : Int) ^ (k + 1) * 2 ^ n = 2 * half ln := by rw [← Int.pow_add, ← hn, hpw]
      rw [Int.mul_sub, a1, a2]; omega
    rw [e2, div_shift]
    omega
  · rename_i hv
    refine ⟨by omega, by omega, ?_⟩
    have e1 : v % 18446744073709551616 = v := by omega
    rw [e1]
    omega

/-- What X makes of a register. -/
def extV (v n : Int) : Int := if half n ≤ v % (2 * half n) then v % (2 * half n) - 2 * half n else v % (2 * half n)

theorem and_mask (v : Int) (n : Nat) (h : n ≤ 62) : bits BinOp.and IntKind.i64 v (2 ^ n - 1) = v % 2 ^ n := by
  have hpos : 0 < 2 ^ n := Nat.two_pow_pos n
  have hle : 2 ^ n ≤ 2 ^ 62 := Nat.pow_le_pow_right (by omega) h
  have e62 : (2 : Nat) ^ 62 = 4611686018427387904 := rfl
  have hc : ((2 : Int) ^ n - 1) = ((2 ^ n - 1 : Nat) : Int) := by rw [Int.natCast_sub hpos]; simp
  have hc2 : ((2 : Int) ^ n) = ((2 ^ n : Nat) : Int) := by simp
  show IntKind.i64.wrap ((BitVec.ofInt 64 v &&& BitVec.ofInt 64 (2 ^ n - 1)).toNat : Int) = _
  have h2 : (BitVec.ofInt 64 ((2 ^ n - 1 : Nat) : Int)).toNat = 2 ^ n - 1 := by
    rw [BitVec.ofInt_natCast, BitVec.toNat_ofNat]; exact Nat.mod_eq_of_lt (by omega)
  rw [hc, BitVec.toNat_and, h2, Nat.and_two_pow_sub_one_eq_mod, BitVec.toNat_ofInt, IntKind.wrap_i64, hc2]
  have e64 : ((2 ^ 64 : Nat) : Int) = 18446744073709551616 := rfl
  rw [e64]
  have hd : (((v % 18446744073709551616).toNat % 2 ^ n : Nat) : Int) = v % ((2 ^ n : Nat) : Int) := by
    rw [Int.natCast_emod, Int.toNat_of_nonneg (Int.emod_nonneg _ (by omega)), Int.emod_emod_of_dvd]
    refine ⟨((2 ^ (64 - n) : Nat) : Int), ?_⟩
    rw [← Int.natCast_mul, ← Nat.pow_add, show n + (64 - n) = 64 by omega]; rfl
  rw [hd]
  have h3 : 0 ≤ v % ((2 ^ n : Nat) : Int) := Int.emod_nonneg _ (by omega)
  have h4 : v % ((2 ^ n : Nat) : Int) < ((2 ^ n : Nat) : Int) := Int.emod_lt_of_pos _ (by omega)
  omega

/-- Byte j of a payload's number. -/
def byteOf (N j : Nat) : Nat := N / 2 ^ (8 * j) % 256
theorem byteOf_lt (N j : Nat) : byteOf N j < 256 := Nat.mod_lt _ (by omega)
theorem byteOf_bit (N j i : Nat) : (byteOf N j).testBit i = (decide (i < 8) && N.testBit (8 * j + i)) := by
  rw [byteOf, show (256 : Nat) = 2 ^ 8 from rfl, Nat.testBit_mod_two_pow, Nat.testBit_div_two_pow, Nat.add_comm]
theorem byteOf_put (N b : Nat) : byteOf (N ||| 2 ^ b) (b / 8) = byteOf N (b / 8) ||| 2 ^ (b % 8) := by
  apply Nat.eq_of_testBit_eq
  intro i
  rw [byteOf_bit, Nat.testBit_or, Nat.testBit_or, byteOf_bit, Nat.testBit_two_pow, Nat.testBit_two_pow]
  by_cases h : i < 8
  · by_cases e : b % 8 = i
    · have : b = 8 * (b / 8) + i := by omega
      simp [h, e, ← this]
    · have : ¬ b = 8 * (b / 8) + i := by omega
      simp [h, e, this]
  · have : ¬ b % 8 = i := by omega
    simp [h, this]
theorem byteOf_other (N b j : Nat) (h : j ≠ b / 8) : byteOf (N ||| 2 ^ b) j = byteOf N j := by
  apply Nat.eq_of_testBit_eq
  intro i
  rw [byteOf_bit, Nat.testBit_or, byteOf_bit, Nat.testBit_two_pow]
  by_cases hi : i < 8
  · have : ¬ b = 8 * j + i := by omega
    simp [this]
  · simp [hi]

/-- The payload of n bytes that a number is. -/
def bytesL (N n : Nat) : List Int := (List.range n).map (fun j => (byteOf N j : Int))
def payB (N n : Nat) : ByteArray := strOfNums (bytesL N n)
theorem bytesL_len (N n : Nat) : (bytesL N n).length = n := by simp [bytesL]
theorem bytesL_get (N n i : Nat) (h : i < n) : (bytesL N n).getD i 0 = (byteOf N i : Int) := by simp [bytesL, h]
theorem bytesL_succ (N n : Nat) : bytesL N (n + 1) = bytesL N n ++ [(byteOf N n : Int)] := by simp [bytesL, List.range_succ]

/-- The payload's number behind the first k signals. -/
def bitsTo (L : List Sg) (Z : List Int) (c : Int) : Nat → Nat
  | 0 => 0
  | k + 1 => if activeB (sgAt L k).rl c then bitsTo L Z c k ||| layTo (sgAt L k).st (sgAt L k).ln (sgAt L k).od (Z.getD k 0) (sgAt L k).ln.toNat else bitsTo L Z c k

end Go.Proofs.Ytoihlnjcgopdlab

namespace Go.Proofs.Ytoihlnjcgopdlab
open Go.RowKit


set_option maxHeartbeats 400000 in
theorem isActive_any (a0 a1 st ln od a5 rl c : Int) (w : World) (h0 : 0 ≤ rl) (h1 : rl ≤ 255) :
    Calls Try.prog 79 #[.agg #[.int .i64 a0, .int .u8 a1, .int .i64 st, .int .i64 ln, .int .u8 od, .int .u8 a5, .int .u8 rl], .int .i64 c] w
      fun e w' => e = .returned (.bool (activeB rl c)) ∧ Below w.heap.size w w' := by
  cases hd : isDigB rl with
  | false =>
    have HA := hide (show activeB rl c = true by rw [activeB, hd]; rfl)
    go_enter Try.func79, Try.ntmps79
    go_wp2_with (go_at_call 95; refine (isDigit_any _ _).mono ?_; rintro e w' ⟨rfl, rfl⟩)
    go_ret
    exact ⟨ret_bool (by rw [unhide HA]), (Below.refl _ _).alloc (Nat.le_refl _) _⟩
  | true =>
    have HW := hide (show (worth rl == c) = activeB rl c by
      simp [isDigB] at hd
      rw [activeB, dig_worth hd.1 hd.2, show isDigB rl = true by simp [isDigB]; omega, beq_dec]; rfl)
    go_enter Try.func79, Try.ntmps79
    go_wp2_with (first | (go_at_call 95; refine (isDigit_any _ _).mono ?_; rintro e w' ⟨rfl, rfl⟩) | (go_at_call 59; refine (digitWorth_any _ _ h0 h1).mono ?_; rintro e w' ⟨rfl, rfl⟩))
    go_ret
    exact ⟨ret_bool (by rw [unhide HW]), (Below.refl _ _).alloc (Nat.le_refl _) _⟩

set_option maxHeartbeats 400000 in
theorem inRange_any (v ln : Int) (sg : Bool) (w : World) (h0 : 1 ≤ ln) (h1 : ln ≤ 32) :
    Calls Try.prog 87 #[.int .i64 v, .int .i64 ln, .bool sg] w fun e w' => e = .returned (.bool (fitsB (if sg then 115 else 117) ln v)) ∧ w = w' := by
  have hp := pow_half ln h0
  have hl := half_pos ln
  have hu := half_le ln h1
  cases sg
  · simp only [Bool.false_eq_true, if_false]
    have HF := hide (show fitsB 117 ln v = (decide (0 ≤ v) && decide (v < 2 * half ln)) by simp [fitsB])
    obtain ⟨hh, HH⟩ : ∃ x, Hid (x = half ln) := ⟨_, hide rfl⟩
    rw [← unhide HH] at hp hl hu
    go_enter Try.func87, Try.ntmps87
    go_wp2
    all_goals (go_ret; exact ⟨ret_bool (by rw [unhide HF, ← unhide HH, Bool.eq_iff_iff]; simp; try omega), rfl⟩)
  · simp only [if_true]
    have HF := hide (show fitsB 115 ln v = (decide (-(half ln) ≤ v) && decide (v < half ln)) by simp [fitsB])
    obtain ⟨hh, HH⟩ : ∃ x, Hid (x = half ln) := ⟨_, hide rfl⟩
    rw [← unhide HH] at hp hl hu
    go_enter Try.func87, Try.ntmps87
    go_wp2
    all_goals (go_ret; exact ⟨ret_bool (by rw [unhide HF, ← unhide HH, Bool.eq_iff_iff]; simp; try omega), rfl⟩)

set_option maxHeartbeats 400000 in
theorem extended_any (v ln : Int) (w : World) (h0 : 1 ≤ ln) (h1 : ln ≤ 32) :
    Calls Try.prog 86 #[.int .i64 v, .int .i64 ln] w fun e w' => e = .returned (.int .i64 (extV v ln)) ∧ w = w' := by
  have hp := pow_half ln h0
  have hl := half_pos ln
  have hu := half_le ln h1
  have hand := and_mask v ln.toNat (by omega)
  rw [hp] at hand
  have hm0 : 0 ≤ v % (2 * half ln) := Int.emod_nonneg _ (by omega)
  have hm1 : v % (2 * half ln) < 2 * half ln := Int.emod_lt_of_pos _ (by omega)
  have HF := hide (show extV v ln = if half ln ≤ v % (2 * half ln) then v % (2 * half ln) - 2 * half ln else v % (2 * half ln) from rfl)
  obtain ⟨hh, HH⟩ : ∃ x, Hid (x = half ln) := ⟨_, hide rfl⟩
  rw [← unhide HH] at hp hl hu hand hm0 hm1 HF
  generalize v % (2 * hh) = y at *
  by_cases hge : hh ≤ y
  · go_enter Try.func86, Try.ntmps86
    go_wp2
    go_ret
    exact ⟨ret_int (by rw [unhide HF, if_pos hge]), rfl⟩
  · go_enter Try.func86, Try.ntmps86
    go_wp2
    go_ret
    exact ⟨ret_int (by rw [unhide HF, if_neg (by omega)]), rfl⟩

set_option maxHeartbeats 400000 in
theorem fits_any (a0 a1 st ln od kd rl v : Int) (w : World) (h0 : 1 ≤ ln) (h1 : ln ≤ 32) (h2 : kd = 117 ∨ kd = 115) :
    Calls Try.prog 80 #[.agg #[.int .i64 a0, .int .u8 a1, .int .i64 st, .int .i64 ln, .int .u8 od, .int .u8 kd, .int .u8 rl], .int .i64 v] w
      fun e w' => e = .returned (.bool (fitsB kd ln v)) ∧ Below w.heap.size w w' := by
  rcases h2 with rfl | rfl
  · go_enter Try.func80, Try.ntmps80
    go_wp2_with (go_at_call 87; refine (inRange_any v ln _ _ h0 h1).mono ?_; rintro e w' ⟨rfl, rfl⟩)
    go_ret
    exact ⟨rfl, (Below.refl _ _).alloc (Nat.le_refl _) _⟩
  · go_enter Try.func80, Try.ntmps80
    go_wp2_with (go_at_call 87; refine (inRange_any v ln _ _ h0 h1).mono ?_; rintro e w' ⟨rfl, rfl⟩)
    go_ret
    exact ⟨rfl, (Below.refl _ _).alloc (Nat.le_refl _) _⟩

set_option maxHeartbeats 400000 in
theorem rFits_any (v ln kd : Int) (w : World) (h0 : 1 ≤ ln) (h1 : ln ≤ 32) (h2 : kd = 117 ∨ kd = 115) :
    Calls Try.prog 55 #[.int .i64 v, .int .i64 ln, .bool (decide (kd = 115))] w fun e w' => e = .returned (.bool (fitsB kd ln v)) ∧ w' = w := by
  have hp := pow_half ln h0
  have hp2 := pow_half2 ln
  have hl := half_pos ln
  have hu := half_le ln h1
  rcases h2 with rfl | rfl
  · have HF := hide (show fitsB 117 ln v = (decide (0 ≤ v) && decide (v < 2 * half ln)) by simp [fitsB])
    obtain ⟨hh, HH⟩ : ∃ x, Hid (x = half ln) := ⟨_, hide rfl⟩
    rw [← unhide HH] at hp hl hu hp2
    rw [show decide ((117 : Int) = 115) = false from rfl]
    go_enter Try.func55, Try.ntmps55
    go_wp2
    all_goals (go_ret; exact ⟨ret_bool (by rw [unhide HF, ← unhide HH, Bool.eq_iff_iff]; simp; try omega), rfl⟩)
  · have HF := hide (show fitsB 115 ln v = (decide (-(half ln) ≤ v) && decide (v < half ln)) by simp [fitsB])
    obtain ⟨hh, HH⟩ : ∃ x, Hid (x = half ln) := ⟨_, hide rfl⟩
    rw [← unhide HH] at hp hl hu hp2
    rw [show decide ((115 : Int) = 115) = true from rfl]
    go_enter Try.func55, Try.ntmps55
    go_wp2
    all_goals (go_ret; exact ⟨ret_bool (by rw [unhide HF, ← unhide HH, Bool.eq_iff_iff]; simp; try omega), rfl⟩)

set_option maxHeartbeats 400000 in
theorem rActive_any (id : ByteArray) (sz pl : Int) (v : Value) (L : List Sg) (i : Nat) (c : Int) (w : World) (h : RSigsAt w v L) (hl : L.length ≤ 8) (hi : i < L.length) (hr0 : 0 ≤ (sgAt L i).rl) (hr1 : (sgAt L i).rl ≤ 255) :
    Calls Try.prog 26 #[.agg #[.string id, .int .i64 sz, v, .int .i64 pl], .int .i64 i, .int .i64 c] w fun e w' => e = .returned (.bool (activeB (sgAt L i).rl c)) ∧ Below w.heap.size w w' := by
  rcases h.opened with ⟨rfl, a, cc, rfl⟩ | ⟨g, cap, rfl, hg, hcap, _, hc⟩
  · simp at hi
  have hc5 : ∀ o : Obj, (w.alloc o).cell? ⟨g, i * 7 + 5, none⟩ = some (.int .u8 (sgAt L i).rl) := fun o => by rw [alloc_cell hg]; exact hc i 5 hi (by omega)
  clear hc
  cases hd : isDigB (sgAt L i).rl with
  | false =>
    have HA := hide (show activeB (sgAt L i).rl c = true by rw [activeB, hd]; rfl)
    go_enter Try.func26, Try.ntmps26
    go_wp2_with (go_at_call 46; refine (rIsDigit_any _ _).mono ?_; rintro e w' ⟨rfl, rfl⟩)
    go_ret
    exact ⟨ret_bool (by rw [unhide HA]), (Below.refl _ _).alloc (Nat.le_refl _) _⟩
  | true =>
    have hd2 := hd
    simp [isDigB] at hd2
    obtain ⟨hd3, hd4⟩ := hd2
    have HW := hide (show (c == (sgAt L i).rl - 48) = activeB (sgAt L i).rl c by
      rw [activeB, hd, Bool.eq_iff_iff]; simp; omega)
    go_enter Try.func26, Try.ntmps26
    go_wp2_with (go_at_call 46; refine (rIsDigit_any _ _).mono ?_; rintro e w' ⟨rfl, rfl⟩)
    go_ret
    exact ⟨ret_bool (by rw [← unhide HW]), (Below.refl _ _).alloc (Nat.le_refl _) _⟩

end Go.Proofs.Ytoihlnjcgopdlab

namespace Go.Proofs.Ytoihlnjcgopdlab
open Go.RowKit

def zAt (Z : List Int) (k : Nat) : Int := Z.getD k 0

/-- The slice value v reads, in w, as the numbers Z. -/
def IntsAt (w : World) (v : Value) (Z : List Int) : Prop :=
  ∃ a cap, v = .slice a Z.length cap ∧ Z.length ≤ cap ∧ (a = none → Z.length = 0) ∧ ∀ x, a = some x → (0 < Z.length → x.block < w.heap.size) ∧ ∀ i, i < Z.length → w.cell? (x.add i) = some (.int .i64 (zAt Z i))

theorem add_block (x : Addr) (i : Nat) : (x.add i).block = x.block := by unfold Addr.add; split <;> rfl

theorem IntsAt.below {w w' : World} {v : Value} {Z : List Int} (h : IntsAt w v Z) (hb : Below w.heap.size w w') : IntsAt w' v Z := by
  obtain ⟨a, cap, rfl, h1, h2, h3⟩ := h
  refine ⟨a, cap, rfl, h1, h2, fun x hx => ?_⟩
  obtain ⟨hlt, hc⟩ := h3 x hx
  refine ⟨fun h0 => Nat.lt_of_lt_of_le (hlt h0) hb.size, fun i hi => ?_⟩
  rw [hb.cell (p := x.add i) (by rw [add_block]; exact hlt (by omega))]; exact hc i hi

theorem ints_cell {w wr : World} {x : Addr} {Z : List Int} (h : (0 < Z.length → x.block < w.heap.size) ∧ ∀ i, i < Z.length → w.cell? (x.add i) = some (.int .i64 (zAt Z i))) (hb : Below w.heap.size w wr) {k : Nat} (hk : k < Z.length) : wr.cell? (x.add k) = some (.int .i64 (zAt Z k)) := by
  rw [hb.cell (p := x.add k) (by rw [add_block]; exact h.1 (by omega))]; exact h.2 k hk

def unfit (L : List Sg) (Z : List Int) (c : Int) (k : Nat) : Bool := activeB (sgAt L k).rl c && !fitsB (sgAt L k).kd (sgAt L k).ln (zAt Z k)
def firstUn (L : List Sg) (Z : List Int) (c : Int) : Int := findIx (unfit L Z c) L.length

/-- What the readers of a message's signals may take for granted of them. -/
def Good (L : List Sg) : Prop := L.length ≤ 8 ∧ ∀ k, k < L.length → (sgAt L k).Ok ∧ 0 ≤ (sgAt L k).rl ∧ (sgAt L k).rl ≤ 255

set_option maxRecDepth 100000 in
set_option maxHeartbeats 1000000 in
theorem firstUnfit_any (v vz : Value) (L : List Sg) (Z : List Int) (c : Int) (w : World) (h : SigsAt w v L) (hz : IntsAt w vz Z) (hlen : Z.length = L.length) (hg : Good L) :
    Calls Try.prog 49 #[v, vz, .int .i64 c] w fun e w' => e = .returned (.int .i64 (firstUn L Z c)) ∧ Below w.heap.size w w' := by
  have hl := hg.1
  have HOK := hide hg.2
  clear hg
  rcases h.opened with ⟨rfl, a, cc, rfl⟩ | ⟨g, cap, rfl, hgl, hcap, hcm, hc⟩
  · obtain ⟨za, zcap, rfl, hz1, hz2, hz3⟩ := hz
    clear hz3 hz2
    go_enter Try.func49, Try.ntmps49
    go_wp2
    refine wp_loop_rounds 1 ?_
    rw [rounds_succ]
    go_wp2
    go_ret
    exact ⟨ret_int (by simp [firstUn, findIx]), Below.refl _ _⟩
  · obtain ⟨za, zcap, rfl, hz1, hz2, hz3⟩ := hz
    have HC := hide hc
    have HZ2 := hide hz2
    have HZ3 := hide hz3
    have HLEN := hide hlen
    have hle1 : Z.length ≤ L.length := by omega
    have hle2 : L.length ≤ Z.length := by omega
    clear hc hz2 hz3 hlen h
    cases za with
    | none =>
      have h0 := unhide HZ2 rfl
      have hl0 : L.length ≤ 0 := by omega
      clear h0
      go_enter Try.func49, Try.ntmps49
      go_wp2
      refine wp_loop_rounds 1 ?_
      rw [rounds_succ]
      go_wp2
      go_ret
      exact ⟨ret_int (by have : L.length = 0 := by omega
                         rw [firstUn, this]; rfl), Below.refl _ _⟩
    | some x =>
      have HX := hide (unhide HZ3 x rfl)
      go_enter Try.func49, Try.ntmps49
      go_wp2
      go_loopw [7, 8] (fun i _ wr => ∃ k : Nat, k ≤ L.length ∧ i = .int .i64 k ∧ (∀ j, j < k → unfit L Z c j = false) ∧ Below w.heap.size w wr) (fun i _ _ => L.length - (intOf i).toNat)
      case atStart => exact ⟨0, by omega, rfl, by intro j hj; omega, Below.refl _ _⟩
      case round =>
        obtain ⟨k, hk, rfl, hno, hb⟩ := hrel
        have HN := hide hno
        clear hno
        by_cases hlt : k < L.length
        · have hc7 := fun (wx : World) (h : Below w.heap.size w wx) => cells7 (unhide HC) hgl h hlt
          have hzc := fun (wx : World) (h : Below w.heap.size w wx) => ints_cell (unhide HX) h (show k < Z.length by omega)
          have hi0 : (0 : Int) ≤ (k : Int) := by omega
          have hi1 : (k : Int) < (L.length : Int) := by omega
          have hi2 : (k : Int) < (Z.length : Int) := by omega
          obtain ⟨ok, r0, r1⟩ := unhide HOK k hlt
          have OK := hide ok
          have hcw := hc7 _ hb
          clear ok
          go_wp2_with fail
          refine (isActive_any _ _ _ _ _ _ (sgAt L k).rl c _ r0 r1).mono ?_
          rintro e w2 ⟨rfl, hb2⟩
          have hb2' := hb.trans (hb2.mono hb.size)
          clear hb2 hcw hb
          cases hac : activeB (sgAt L k).rl c with
          | false =>
            go_wp2
            refine wp_region_noPanic ?_
            refine wp_region_held_drew (S := fun w' => Below w.heap.size w w') (by kernel_rfl) hb2'.drew (fun hHeld => ?_)
            refine wpAnyH_take (i := 0) (v := ?_) (at_list rfl) (by kernel_rfl) (by kernel_rfl) (by kernel_rfl) (fun _ _ _ h => h) (Or.inl ⟨by rfl, ?_⟩) (by assumption) ?_
            rotate_left
            · intro w hSw; (try dsimp only at hSw); first | (go_simp; done) | (go_simp; with_reducible rfl)
            try simp only [Act.put]
            try simp only [List.setIfInBounds_toArray]
            try simp only [List.set_cons_succ]
            try simp only [List.set_cons_zero]
            refine wpAnyH_take (i := 1) (v := ?_) (at_list rfl) (by kernel_rfl) (by kernel_rfl) (by kernel_rfl) (fun _ _ _ h => h) (Or.inl ⟨by rfl, ?_⟩) (by assumption) ?_
            rotate_left
            · intro w hSw; (try dsimp only at hSw); first | (go_simp; done) | (go_simp; with_reducible rfl)
            try simp only [Act.put]
            try simp only [List.setIfInBounds_toArray]
            try simp only [List.set_cons_succ]
            try simp only [List.set_cons_zero]
            refine wpAnyH_take (i := 2) (v := undef) (at_list rfl) (by kernel_rfl) (by kernel_rfl) (by kernel_rfl) (fun _ _ _ h => h) (Or.inr ⟨by rfl, rfl⟩) (by assumption) ?_
            try simp only [Act.put]
            try simp only [List.setIfInBounds_toArray]
            try simp only [List.set_cons_succ]
            try simp only [List.set_cons_zero]
            refine wpAnyH_take (i := 3) (v := undef) (at_list rfl) (by kernel_rfl) (by kernel_rfl) (by kernel_rfl) (fun _ _ _ h => h) (Or.inr ⟨by rfl, rfl⟩) (by assumption) ?_
            try simp only [Act.put]
            try simp only [List.setIfInBounds_toArray]
            try simp only [List.set_cons_succ]
            try simp only [List.set_cons_zero]
            refine wpAnyH_take (i := 4) (v := undef) (at_list rfl) (by kernel_rfl) (by kernel_rfl) (by kernel_rfl) (fun _ _ _ h => h) (Or.inr ⟨by rfl, rfl⟩) (by assumption) ?_
            try simp only [Act.put]
            try simp only [List.setIfInBounds_toArray]
            try simp only [List.set_cons_succ]
            try simp only [List.set_cons_zero]
            refine wpAnyH_take (i := 5) (v := undef) (at_list rfl) (by kernel_rfl) (by kernel_rfl) (by kernel_rfl) (fun _ _ _ h => h) (Or.inr ⟨by rfl, rfl⟩) (by assumption) ?_
            try simp only [Act.put]
            try simp only [List.setIfInBounds_toArray]
            try simp only [List.set_cons_succ]
            try simp only [List.set_cons_zero]
            refine wpAnyH_take (i := 6) (v := undef) (at_list rfl) (by kernel_rfl) (by kernel_rfl) (by kernel_rfl) (fun _ _ _ h => h) (Or.inr ⟨by rfl, rfl⟩) (by assumption) ?_
            try simp only [Act.put]
            try simp only [List.setIfInBounds_toArray]
            try simp only [List.set_cons_succ]
            try simp only [List.set_cons_zero]
            refine wpAnyH_take (i := 7) (v := undef) (at_list rfl) (by kernel_rfl) (by kernel_rfl) (by kernel_rfl) (fun _ _ _ h => h) (Or.inr ⟨by rfl, rfl⟩) (by assumption) ?_
            try simp only [Act.put]
            try simp only [List.setIfInBounds_toArray]
            try simp only [List.set_cons_succ]
            try simp only [List.set_cons_zero]
            refine wpAnyH_take (i := 8) (v := undef) (at_list rfl) (by kernel_rfl) (by kernel_rfl) (by kernel_rfl) (fun _ _ _ h => h) (Or.inr ⟨by rfl, rfl⟩) (by assumption) ?_
            try simp only [Act.put]
            try simp only [List.setIfInBounds_toArray]
            try simp only [List.set_cons_succ]
            try simp only [List.set_cons_zero]
            refine wpAnyH_take (i := 9) (v := undef) (at_list rfl) (by kernel_rfl) (by kernel_rfl) (by kernel_rfl) (fun _ _ _ h => h) (Or.inr ⟨by rfl, rfl⟩) (by assumption) ?_
            try simp only [Act.put]
            try simp only [List.setIfInBounds_toArray]
            try simp only [List.set_cons_succ]
            try simp only [List.set_cons_zero]
            refine wpAnyH_take (i := 10) (v := undef) (at_list rfl) (by kernel_rfl) (by kernel_rfl) (by kernel_rfl) (fun _ _ _ h => h) (Or.inr ⟨by rfl, rfl⟩) (by assumption) ?_
            try simp only [Act.put]
            try simp only [List.setIfInBounds_toArray]
            try simp only [List.set_cons_succ]
            try simp only [List.set_cons_zero]
            refine wpAnyH_take (i := 11) (v := undef) (at_list rfl) (by kernel_rfl) (by kernel_rfl) (by kernel_rfl) (fun _ _ _ h => h) (Or.inr ⟨by rfl, rfl⟩) (by assumption) ?_
            try simp only [Act.put]
            try simp only [List.setIfInBounds_toArray]
            try simp only [List.set_cons_succ]
            try simp only [List.set_cons_zero]
            refine wpAnyH_take (i := 12) (v := ?_) (at_list rfl) (by kernel_rfl) (by kernel_rfl) (by kernel_rfl) (fun _ _ _ h => h) (Or.inl ⟨by rfl, ?_⟩) (by assumption) ?_
            rotate_left
            · intro w hSw; (try dsimp only at hSw); first | (go_simp; done) | (go_simp; with_reducible rfl)
            try simp only [Act.put]
            try simp only [List.setIfInBounds_toArray]
            try simp only [List.set_cons_succ]
            try simp only [List.set_cons_zero]
            refine wpAnyH_done (by kernel_rfl) ?_ _
            refine NoPanic.normal ?_
            clear hc7 hzc
            go_wp2
            go_roundw
            case rel => exact ⟨k + 1, by omega, by go_num, fun j hj => by
                by_cases e : j = k
                · subst e; rw [unfit, hac]; rfl
                · exact unhide HN j (by omega), by assumption⟩
            case measure => simp [intOf]; omega
          | true =>
            cases hfi : fitsB (sgAt L k).kd (sgAt L k).ln (zAt Z k) with
            | true =>
              go_wp2
              refine wp_region_noPanic ?_
              refine wp_region_held_drew (S := fun w' => Below w.heap.size w w') (by kernel_rfl) hb2'.drew (fun hHeld => ?_)
              refine wpAnyH_take (i := 0) (v := ?_) (at_list rfl) (by kernel_rfl) (by kernel_rfl) (by kernel_rfl) (fun _ _ _ h => h) (Or.inl ⟨by rfl, ?_⟩) (by assumption) ?_
              rotate_left
              · intro w hSw; (try dsimp only at hSw); first | (go_simp; done) | (go_simp; with_reducible rfl)
              try simp only [Act.put]
              try simp only [List.setIfInBounds_toArray]
              try simp only [List.set_cons_succ]
              try simp only [List.set_cons_zero]
              refine wpAnyH_take (i := 1) (v := ?_) (at_list rfl) (by kernel_rfl) (by kernel_rfl) (by kernel_rfl) (fun _ _ _ h => h) (Or.inl ⟨by rfl, ?_⟩) (by assumption) ?_
              rotate_left
              · intro w hSw; (try dsimp only at hSw); first | (go_simp; done) | (go_simp; with_reducible rfl)
              try simp only [Act.put]
              try simp only [List.setIfInBounds_toArray]
              try simp only [List.set_cons_succ]
              try simp only [List.set_cons_zero]
              refine wpAnyH_take (i := 2) (v := ?_) (at_list rfl) (by kernel_rfl) (by kernel_rfl) (by kernel_rfl) (fun _ _ _ h => h) (Or.inl ⟨by rfl, ?_⟩) (by assumption) ?_
              rotate_left
              · intro w hSw; (try dsimp only at hSw); first | (go_simp; done) | (go_simp; with_reducible rfl)
              try simp only [Act.put]
              try simp only [List.setIfInBounds_toArray]
              try simp only [List.set_cons_succ]
              try simp only [List.set_cons_zero]
              refine wpAnyH_take (i := 3) (v := ?_) (at_list rfl) (by kernel_rfl) (by kernel_rfl) (by kernel_rfl) (fun _ _ _ h => h) (Or.inl ⟨by rfl, ?_⟩) (by assumption) ?_
              rotate_left
              · intro w hSw; (try dsimp only at hSw); first | (go_simp; done) | (go_simp; with_reducible rfl)
              try simp only [Act.put]
              try simp only [List.setIfInBounds_toArray]
              try simp only [List.set_cons_succ]
              try simp only [List.set_cons_zero]
              refine wpAnyH_take (i := 4) (v := ?_) (at_list rfl) (by kernel_rfl) (by kernel_rfl) (by kernel_rfl) (fun _ _ _ h => h) (Or.inl ⟨by rfl, ?_⟩) (by assumption) ?_
              rotate_left
              · intro w hSw; (try dsimp only at hSw); first | (go_simp; done) | (go_simp; with_reducible rfl)
              try simp only [Act.put]
              try simp only [List.setIfInBounds_toArray]
              try simp only [List.set_cons_succ]
              try simp only [List.set_cons_zero]
              refine wpAnyH_take (i := 5) (v := ?_) (at_list rfl) (by kernel_rfl) (by kernel_rfl) (by kernel_rfl) (fun _ _ _ h => h) (Or.inl ⟨by rfl, ?_⟩) (by assumption) ?_
              rotate_left
              · intro w hSw; (try dsimp only at hSw); first | (go_simp; done) | (go_simp; with_reducible rfl)
              try simp only [Act.put]
              try simp only [List.setIfInBounds_toArray]
              try simp only [List.set_cons_succ]
              try simp only [List.set_cons_zero]
              refine wpAnyH_take (i := 6) (v := ?_) (at_list rfl) (by kernel_rfl) (by kernel_rfl) (by kernel_rfl) (fun _ _ _ h => h) (Or.inl ⟨by rfl, ?_⟩) (by assumption) ?_
              rotate_left
              · intro w hSw; (try dsimp only at hSw); first | (go_simp; done) | (go_simp; with_reducible rfl)
              try simp only [Act.put]
              try simp only [List.setIfInBounds_toArray]
              try simp only [List.set_cons_succ]
              try simp only [List.set_cons_zero]
              refine wpAnyH_take (i := 7) (v := ?_) (at_list rfl) (by kernel_rfl) (by kernel_rfl) (by kernel_rfl) (fun _ _ _ h => h) (Or.inl ⟨by rfl, ?_⟩) (by assumption) ?_
              rotate_left
              · intro w hSw; (try dsimp only at hSw); first | (go_simp; done) | (go_simp; with_reducible rfl)
              try simp only [Act.put]
              try simp only [List.setIfInBounds_toArray]
              try simp only [List.set_cons_succ]
              try simp only [List.set_cons_zero]
              refine wpAnyH_take (i := 8) (v := ?_) (at_list rfl) (by kernel_rfl) (by kernel_rfl) (by kernel_rfl) (fun _ _ _ h => h) (Or.inl ⟨by rfl, ?_⟩) (by assumption) ?_
              rotate_left
              · intro w hSw; (try dsimp only at hSw); first | (go_simp; done) | (go_simp; with_reducible rfl)
              try simp only [Act.put]
              try simp only [List.setIfInBounds_toArray]
              try simp only [List.set_cons_succ]
              try simp only [List.set_cons_zero]
              refine wpAnyH_take (i := 9) (v := ?_) (at_list rfl) (by kernel_rfl) (by kernel_rfl) (by kernel_rfl) (fun _ _ _ h => h) (Or.inl ⟨by rfl, ?_⟩) (by assumption) ?_
              rotate_left
              · intro w hSw; (try dsimp only at hSw); first | (go_simp; done) | (go_simp; with_reducible rfl)
              try simp only [Act.put]
              try simp only [List.setIfInBounds_toArray]
              try simp only [List.set_cons_succ]
              try simp only [List.set_cons_zero]
              refine wpAnyH_ready (rs := [10]) (by kernel_rfl) (by simp) ?_
              refine AllReadyH.cons (at_list rfl) (fun K hK => ?_) AllReadyH.nil
              go_simp
              refine (fits_any _ _ _ (sgAt L k).ln _ (sgAt L k).kd _ (zAt Z k) _ (unhide OK).ln0 (unhide OK).ln1 (unhide OK).kd).mono ?_; rintro e w3 ⟨rfl, hb3⟩; have hb3' := hb3.mono hHeld.size; dsimp only
              refine hK.out _ _ (hHeld.trans hb3') (fun hHeld => ?_)
              clear hK K
              try simp only [Act.put]
              try simp only [List.setIfInBounds_toArray]
              try simp only [List.set_cons_succ]
              try simp only [List.set_cons_zero]
              refine wpAnyH_take (i := 11) (v := ?_) (at_list rfl) (by kernel_rfl) (by kernel_rfl) (by kernel_rfl) (fun _ _ _ h => h) (Or.inl ⟨by rfl, ?_⟩) (by assumption) ?_
              rotate_left
              · intro w hSw; (try dsimp only at hSw); first | (go_simp; done) | (go_simp; with_reducible rfl)
              try simp only [Act.put]
              try simp only [List.setIfInBounds_toArray]
              try simp only [List.set_cons_succ]
              try simp only [List.set_cons_zero]
              refine wpAnyH_take (i := 12) (v := ?_) (at_list rfl) (by kernel_rfl) (by kernel_rfl) (by kernel_rfl) (fun _ _ _ h => h) (Or.inl ⟨by rfl, ?_⟩) (by assumption) ?_
              rotate_left
              · intro w hSw; (try dsimp only at hSw); first | (go_simp; done) | (go_simp; with_reducible rfl)
              try simp only [Act.put]
              try simp only [List.setIfInBounds_toArray]
              try simp only [List.set_cons_succ]
              try simp only [List.set_cons_zero]
              refine wpAnyH_done (by kernel_rfl) ?_ _
              refine NoPanic.normal ?_
              clear hc7 hzc hb3 hb3'
              go_wp2
              go_roundw
              case rel => exact ⟨k + 1, by omega, by go_num, fun j hj => by
                  by_cases e : j = k
                  · subst e; rw [unfit, hfi]; simp
                  · exact unhide HN j (by omega), by assumption⟩
              case measure => simp [intOf]; omega
            | false =>
              go_wp2
              refine wp_region_noPanic ?_
              refine wp_region_held_drew (S := fun w' => Below w.heap.size w w') (by kernel_rfl) hb2'.drew (fun hHeld => ?_)
              refine wpAnyH_take (i := 0) (v := ?_) (at_list rfl) (by kernel_rfl) (by kernel_rfl) (by kernel_rfl) (fun _ _ _ h => h) (Or.inl ⟨by rfl, ?_⟩) (by assumption) ?_
              rotate_left
              · intro w hSw; (try dsimp only at hSw); first | (go_simp; done) | (go_simp; with_reducible rfl)
              try simp only [Act.put]
              try simp only [List.setIfInBounds_toArray]
              try simp only [List.set_cons_succ]
              try simp only [List.set_cons_zero]
              refine wpAnyH_take (i := 1) (v := ?_) (at_list rfl) (by kernel_rfl) (by kernel_rfl) (by kernel_rfl) (fun _ _ _ h => h) (Or.inl ⟨by rfl, ?_⟩) (by assumption) ?_
              rotate_left
              · intro w hSw; (try dsimp only at hSw); first | (go_simp; done) | (go_simp; with_reducible rfl)
              try simp only [Act.put]
              try simp only [List.setIfInBounds_toArray]
              try simp only [List.set_cons_succ]
              try simp only [List.set_cons_zero]
              refine wpAnyH_take (i := 2) (v := ?_) (at_list rfl) (by kernel_rfl) (by kernel_rfl) (by kernel_rfl) (fun _ _ _ h => h) (Or.inl ⟨by rfl, ?_⟩) (by assumption) ?_
              rotate_left
              · intro w hSw; (try dsimp only at hSw); first | (go_simp; done) | (go_simp; with_reducible rfl)
              try simp only [Act.put]
              try simp only [List.setIfInBounds_toArray]
              try simp only [List.set_cons_succ]
              try simp only [List.set_cons_zero]
              refine wpAnyH_take (i := 3) (v := ?_) (at_list rfl) (by kernel_rfl) (by kernel_rfl) (by kernel_rfl) (fun _ _ _ h => h) (Or.inl ⟨by rfl, ?_⟩) (by assumption) ?_
              rotate_left
              · intro w hSw; (try dsimp only at hSw); first | (go_simp; done) | (go_simp; with_reducible rfl)
              try simp only [Act.put]
              try simp only [List.setIfInBounds_toArray]
              try simp only [List.set_cons_succ]
              try simp only [List.set_cons_zero]
              refine wpAnyH_take (i := 4) (v := ?_) (at_list rfl) (by kernel_rfl) (by kernel_rfl) (by kernel_rfl) (fun _ _ _ h => h) (Or.inl ⟨by rfl, ?_⟩) (by assumption) ?_
              rotate_left
              · intro w hSw; (try dsimp only at hSw); first | (go_simp; done) | (go_simp; with_reducible rfl)
              try simp only [Act.put]
              try simp only [List.setIfInBounds_toArray]
              try simp only [List.set_cons_succ]
              try simp only [List.set_cons_zero]
              refine wpAnyH_take (i := 5) (v := ?_) (at_list rfl) (by kernel_rfl) (by kernel_rfl) (by kernel_rfl) (fun _ _ _ h => h) (Or.inl ⟨by rfl, ?_⟩) (by assumption) ?_
              rotate_left
              · intro w hSw; (try dsimp only at hSw); first | (go_simp; done) | (go_simp; with_reducible rfl)
              try simp only [Act.put]
              try simp only [List.setIfInBounds_toArray]
              try simp only [List.set_cons_succ]
              try simp only [List.set_cons_zero]
              refine wpAnyH_take (i := 6) (v := ?_) (at_list rfl) (by kernel_rfl) (by kernel_rfl) (by kernel_rfl) (fun _ _ _ h => h) (Or.inl ⟨by rfl, ?_⟩) (by assumption) ?_
              rotate_left
              · intro w hSw; (try dsimp only at hSw); first | (go_simp; done) | (go_simp; with_reducible rfl)
              try simp only [Act.put]
              try simp only [List.setIfInBounds_toArray]
              try simp only [List.set_cons_succ]
              try simp only [List.set_cons_zero]
              refine wpAnyH_take (i := 7) (v := ?_) (at_list rfl) (by kernel_rfl) (by kernel_rfl) (by kernel_rfl) (fun _ _ _ h => h) (Or.inl ⟨by rfl, ?_⟩) (by assumption) ?_
              rotate_left
              · intro w hSw; (try dsimp only at hSw); first | (go_simp; done) | (go_simp; with_reducible rfl)
              try simp only [Act.put]
              try simp only [List.setIfInBounds_toArray]
              try simp only [List.set_cons_succ]
              try simp only [List.set_cons_zero]
              refine wpAnyH_take (i := 8) (v := ?_) (at_list rfl) (by kernel_rfl) (by kernel_rfl) (by kernel_rfl) (fun _ _ _ h => h) (Or.inl ⟨by rfl, ?_⟩) (by assumption) ?_
              rotate_left
              · intro w hSw; (try dsimp only at hSw); first | (go_simp; done) | (go_simp; with_reducible rfl)
              try simp only [Act.put]
              try simp only [List.setIfInBounds_toArray]
              try simp only [List.set_cons_succ]
              try simp only [List.set_cons_zero]
              refine wpAnyH_take (i := 9) (v := ?_) (at_list rfl) (by kernel_rfl) (by kernel_rfl) (by kernel_rfl) (fun _ _ _ h => h) (Or.inl ⟨by rfl, ?_⟩) (by assumption) ?_
              rotate_left
              · intro w hSw; (try dsimp only at hSw); first | (go_simp; done) | (go_simp; with_reducible rfl)
              try simp only [Act.put]
              try simp only [List.setIfInBounds_toArray]
              try simp only [List.set_cons_succ]
              try simp only [List.set_cons_zero]
              refine wpAnyH_ready (rs := [10]) (by kernel_rfl) (by simp) ?_
              refine AllReadyH.cons (at_list rfl) (fun K hK => ?_) AllReadyH.nil
              go_simp
              refine (fits_any _ _ _ (sgAt L k).ln _ (sgAt L k).kd _ (zAt Z k) _ (unhide OK).ln0 (unhide OK).ln1 (unhide OK).kd).mono ?_; rintro e w3 ⟨rfl, hb3⟩; have hb3' := hb3.mono hHeld.size; dsimp only
              refine hK.out _ _ (hHeld.trans hb3') (fun hHeld => ?_)
              clear hK K
              try simp only [Act.put]
              try simp only [List.setIfInBounds_toArray]
              try simp only [List.set_cons_succ]
              try simp only [List.set_cons_zero]
              refine wpAnyH_take (i := 11) (v := ?_) (at_list rfl) (by kernel_rfl) (by kernel_rfl) (by kernel_rfl) (fun _ _ _ h => h) (Or.inl ⟨by rfl, ?_⟩) (by assumption) ?_
              rotate_left
              · intro w hSw; (try dsimp only at hSw); first | (go_simp; done) | (go_simp; with_reducible rfl)
              try simp only [Act.put]
              try simp only [List.setIfInBounds_toArray]
              try simp only [List.set_cons_succ]
              try simp only [List.set_cons_zero]
              refine wpAnyH_take (i := 12) (v := ?_) (at_list rfl) (by kernel_rfl) (by kernel_rfl) (by kernel_rfl) (fun _ _ _ h => h) (Or.inl ⟨by rfl, ?_⟩) (by assumption) ?_
              rotate_left
              · intro w hSw; (try dsimp only at hSw); first | (go_simp; done) | (go_simp; with_reducible rfl)
              try simp only [Act.put]
              try simp only [List.setIfInBounds_toArray]
              try simp only [List.set_cons_succ]
              try simp only [List.set_cons_zero]
              refine wpAnyH_done (by kernel_rfl) ?_ _
              refine NoPanic.normal ?_
              clear hc7 hzc hb3 hb3'
              go_wp2
              go_ret
              exact ⟨ret_int (by rw [firstUn, findIx_is (unhide HN) hlt (by rw [unfit, hac, hfi]; rfl)]), by assumption⟩
        · go_wp2
          go_ret
          exact ⟨ret_int (by rw [firstUn, findIx_none (fun j hj => unhide HN j (by omega))]), hb⟩

end Go.Proofs.Ytoihlnjcgopdlab

namespace Go.Proofs.Ytoihlnjcgopdlab
open Go.RowKit

def AllFits (L : List Sg) : Prop := ∀ k, k < L.length → (sgAt L k).Fits

theorem lay_lt {s : Sg} (ok : s.Ok) (ft : s.Fits) (v : Int) : layTo s.st s.ln s.od v s.ln.toNat < 18446744073709551616 := by
  have h0 := ok.ln0
  exact layTo_lt _ _ _ _ _ (fun i h h' => ⟨place_lo _ _ _ _ ok.st0 h (by omega), ft i h (by omega)⟩)

theorem bitsTo_lt {L : List Sg} {Z : List Int} {c : Int} (hg : Good L) (hf : AllFits L) : ∀ k, k ≤ L.length → bitsTo L Z c k < 18446744073709551616 := by
  intro k
  induction k with
  | zero => intro _; simp [bitsTo]
  | succ k ih =>
    intro hk
    have h1 := ih (by omega)
    rw [bitsTo]
    split
    · have h2 := lay_lt (hg.2 k (by omega)).1 (hf k (by omega)) (Z.getD k 0)
      have e : (18446744073709551616 : Nat) = 2 ^ 64 := rfl
      rw [e] at h1 h2 ⊢
      exact Nat.or_lt_two_pow h1 h2
    · exact h1

theorem bits_step {L : List Sg} {Z : List Int} {c : Int} {k : Nat} (hg : Good L) (hf : AllFits L) (hk : k < L.length) (ha : activeB (sgAt L k).rl c = true) :
    bits BinOp.or IntKind.u64 (bitsTo L Z c k : Int) (layTo (sgAt L k).st (sgAt L k).ln (sgAt L k).od (zAt Z k) (sgAt L k).ln.toNat : Int) = (bitsTo L Z c (k + 1) : Nat) := by
  rw [u64_or_nat _ _ (bitsTo_lt hg hf k (by omega)) (lay_lt (hg.2 k hk).1 (hf k hk) _), bitsTo, if_pos ha]
  rfl
theorem bits_stay {L : List Sg} {Z : List Int} {c : Int} {k : Nat} (ha : activeB (sgAt L k).rl c = false) : bitsTo L Z c (k + 1) = bitsTo L Z c k := by
  rw [bitsTo, ha]; rfl

set_option maxRecDepth 100000 in
set_option maxHeartbeats 1000000 in
theorem packBits_any (v vz : Value) (L : List Sg) (Z : List Int) (c : Int) (w : World) (h : SigsAt w v L) (hz : IntsAt w vz Z) (hlen : Z.length = L.length) (hg : Good L) (hf : AllFits L) :
    Calls Try.prog 50 #[v, vz, .int .i64 c] w fun e w' => e = .returned (.int .u64 (bitsTo L Z c L.length)) ∧ Below w.heap.size w w' := by
  have hl := hg.1
  have HG := hide hg
  have HF := hide hf
  clear hg hf
  rcases h.opened with ⟨rfl, a, cc, rfl⟩ | ⟨g, cap, rfl, hgl, hcap, hcm, hc⟩
  · obtain ⟨za, zcap, rfl, hz1, hz2, hz3⟩ := hz
    clear hz3 hz2
    go_enter Try.func50, Try.ntmps50
    go_wp2
    refine wp_loop_rounds 1 ?_
    rw [rounds_succ]
    go_wp2
    go_ret
    exact ⟨ret_u64 (by simp [bitsTo]), Below.refl _ _⟩
  · obtain ⟨za, zcap, rfl, hz1, hz2, hz3⟩ := hz
    have HC := hide hc
    have HZ2 := hide hz2
    have HZ3 := hide hz3
    have hle1 : Z.length ≤ L.length := by omega
    have hle2 : L.length ≤ Z.length := by omega
    clear hc hz2 hz3 hlen h
    cases za with
    | none =>
      have h0 := unhide HZ2 rfl
      have hl0 : L.length ≤ 0 := by omega
      clear h0
      go_enter Try.func50, Try.ntmps50
      go_wp2
      refine wp_loop_rounds 1 ?_
      rw [rounds_succ]
      go_wp2
      go_ret
      exact ⟨ret_u64 (by have : L.length = 0 := by omega
                         rw [this]; rfl), Below.refl _ _⟩
    | some x =>
      have HX := hide (unhide HZ3 x rfl)
      go_enter Try.func50, Try.ntmps50
      go_wp2
      go_loopw [7, 8, 9] (fun b i _ wr => ∃ k : Nat, k ≤ L.length ∧ i = .int .i64 k ∧ b = .int .u64 (bitsTo L Z c k) ∧ Below w.heap.size w wr) (fun _ i _ _ => L.length - (intOf i).toNat)
      case atStart => exact ⟨0, by omega, rfl, rfl, Below.refl _ _⟩
      case round =>
        obtain ⟨k, hk, rfl, rfl, hb⟩ := hrel
        by_cases hlt : k < L.length
        · have hc7 := fun (wx : World) (h : Below w.heap.size w wx) => cells7 (unhide HC) hgl h hlt
          have hzc := fun (wx : World) (h : Below w.heap.size w wx) => ints_cell (unhide HX) h (show k < Z.length by omega)
          have hi0 : (0 : Int) ≤ (k : Int) := by omega
          have hi1 : (k : Int) < (L.length : Int) := by omega
          have hi2 : (k : Int) < (Z.length : Int) := by omega
          obtain ⟨ok, r0, r1⟩ := (unhide HG).2 k hlt
          have OK := hide ok
          have hcw := hc7 _ hb
          clear ok
          go_wp2_with fail
          refine (isActive_any _ _ _ _ _ _ (sgAt L k).rl c _ r0 r1).mono ?_
          rintro e w2 ⟨rfl, hb2⟩
          have hb2' := hb.trans (hb2.mono hb.size)
          clear hb2 hcw hb
          cases hac : activeB (sgAt L k).rl c with
          | false =>
            have HS := hide (bits_stay (L := L) (Z := Z) hac)
            clear hc7 hzc
            go_wp2
            go_roundw
            case rel => exact ⟨k + 1, by omega, by go_num, by rw [unhide HS], hb2'⟩
            case measure => simp [intOf]; omega
          | true =>
            have HS := hide (bits_step (Z := Z) (unhide HG) (unhide HF) hlt hac)
            go_wp2
            refine wp_region_noPanic ?_
            refine wp_region_held_drew (S := fun w' => Below w.heap.size w w') (by kernel_rfl) hb2'.drew (fun hHeld => ?_)
            refine wpAnyH_take (i := 0) (v := ?_) (at_list rfl) (by kernel_rfl) (by kernel_rfl) (by kernel_rfl) (fun _ _ _ h => h) (Or.inl ⟨by rfl, ?_⟩) (by assumption) ?_
            rotate_left
            · intro w hSw; (try dsimp only at hSw); first | (go_simp; done) | (go_simp; with_reducible rfl)
            try simp only [Act.put]
            try simp only [List.setIfInBounds_toArray]
            try simp only [List.set_cons_succ]
            try simp only [List.set_cons_zero]
            refine wpAnyH_take (i := 1) (v := ?_) (at_list rfl) (by kernel_rfl) (by kernel_rfl) (by kernel_rfl) (fun _ _ _ h => h) (Or.inl ⟨by rfl, ?_⟩) (by assumption) ?_
            rotate_left
            · intro w hSw; (try dsimp only at hSw); first | (go_simp; done) | (go_simp; with_reducible rfl)
            try simp only [Act.put]
            try simp only [List.setIfInBounds_toArray]
            try simp only [List.set_cons_succ]
            try simp only [List.set_cons_zero]
            refine wpAnyH_take (i := 2) (v := ?_) (at_list rfl) (by kernel_rfl) (by kernel_rfl) (by kernel_rfl) (fun _ _ _ h => h) (Or.inl ⟨by rfl, ?_⟩) (by assumption) ?_
            rotate_left
            · intro w hSw; (try dsimp only at hSw); first | (go_simp; done) | (go_simp; with_reducible rfl)
            try simp only [Act.put]
            try simp only [List.setIfInBounds_toArray]
            try simp only [List.set_cons_succ]
            try simp only [List.set_cons_zero]
            refine wpAnyH_take (i := 3) (v := ?_) (at_list rfl) (by kernel_rfl) (by kernel_rfl) (by kernel_rfl) (fun _ _ _ h => h) (Or.inl ⟨by rfl, ?_⟩) (by assumption) ?_
            rotate_left
            · intro w hSw; (try dsimp only at hSw); first | (go_simp; done) | (go_simp; with_reducible rfl)
            try simp only [Act.put]
            try simp only [List.setIfInBounds_toArray]
            try simp only [List.set_cons_succ]
            try simp only [List.set_cons_zero]
            refine wpAnyH_take (i := 4) (v := ?_) (at_list rfl) (by kernel_rfl) (by kernel_rfl) (by kernel_rfl) (fun _ _ _ h => h) (Or.inl ⟨by rfl, ?_⟩) (by assumption) ?_
            rotate_left
            · intro w hSw; (try dsimp only at hSw); first | (go_simp; done) | (go_simp; with_reducible rfl)
            try simp only [Act.put]
            try simp only [List.setIfInBounds_toArray]
            try simp only [List.set_cons_succ]
            try simp only [List.set_cons_zero]
            refine wpAnyH_take (i := 5) (v := ?_) (at_list rfl) (by kernel_rfl) (by kernel_rfl) (by kernel_rfl) (fun _ _ _ h => h) (Or.inl ⟨by rfl, ?_⟩) (by assumption) ?_
            rotate_left
            · intro w hSw; (try dsimp only at hSw); first | (go_simp; done) | (go_simp; with_reducible rfl)
            try simp only [Act.put]
            try simp only [List.setIfInBounds_toArray]
            try simp only [List.set_cons_succ]
            try simp only [List.set_cons_zero]
            refine wpAnyH_take (i := 6) (v := ?_) (at_list rfl) (by kernel_rfl) (by kernel_rfl) (by kernel_rfl) (fun _ _ _ h => h) (Or.inl ⟨by rfl, ?_⟩) (by assumption) ?_
            rotate_left
            · intro w hSw; (try dsimp only at hSw); first | (go_simp; done) | (go_simp; with_reducible rfl)
            try simp only [Act.put]
            try simp only [List.setIfInBounds_toArray]
            try simp only [List.set_cons_succ]
            try simp only [List.set_cons_zero]
            refine wpAnyH_take (i := 7) (v := ?_) (at_list rfl) (by kernel_rfl) (by kernel_rfl) (by kernel_rfl) (fun _ _ _ h => h) (Or.inl ⟨by rfl, ?_⟩) (by assumption) ?_
            rotate_left
            · intro w hSw; (try dsimp only at hSw); first | (go_simp; done) | (go_simp; with_reducible rfl)
            try simp only [Act.put]
            try simp only [List.setIfInBounds_toArray]
            try simp only [List.set_cons_succ]
            try simp only [List.set_cons_zero]
            refine wpAnyH_ready (rs := [8]) (by kernel_rfl) (by simp) ?_
            refine AllReadyH.cons (at_list rfl) (fun K hK => ?_) AllReadyH.nil
            go_simp
            refine (layBits_any _ _ (sgAt L k).st (sgAt L k).ln (sgAt L k).od _ _ (zAt Z k) _ (unhide OK).st0 (unhide OK).st1 (unhide OK).ln0 (unhide OK).ln1 (unhide OK).od (unhide HF k hlt)).mono ?_; rintro e w3 ⟨rfl, hb3⟩; have hb3' := hb3.mono hHeld.size; dsimp only
            refine hK.out _ _ (hHeld.trans hb3') (fun hHeld => ?_)
            clear hK K
            try simp only [Act.put]
            try simp only [List.setIfInBounds_toArray]
            try simp only [List.set_cons_succ]
            try simp only [List.set_cons_zero]
            refine wpAnyH_take (i := 9) (v := ?_) (at_list rfl) (by kernel_rfl) (by kernel_rfl) (by kernel_rfl) (fun _ _ _ h => h) (Or.inl ⟨by rfl, ?_⟩) (by assumption) ?_
            rotate_left
            · intro w hSw; (try dsimp only at hSw); first | (go_simp; done) | (go_simp; with_reducible rfl)
            try simp only [Act.put]
            try simp only [List.setIfInBounds_toArray]
            try simp only [List.set_cons_succ]
            try simp only [List.set_cons_zero]
            refine wpAnyH_done (by kernel_rfl) ?_ _
            refine NoPanic.normal ?_
            clear hc7 hzc hb3 hb3'
            go_wp2
            go_roundw
            case rel => exact ⟨k + 1, by omega, by go_num, by rw [unhide HS], by assumption⟩
            case measure => simp [intOf]; omega
        · have hkk : k = L.length := by omega
          have HK := hide hkk
          clear hkk
          go_wp2
          go_ret
          exact ⟨ret_u64 (by rw [← unhide HK]), hb⟩

theorem Try.infoU8 : (Try.prog.info? 5).map (fun i => (i.zero, i.size, i.bytes)) = some (some (.int .u8 0), 1, 1) := by kernel_rfl

theorem byte_step (N k : Nat) : (N : Int) / 2 ^ (8 * k) % 256 = (byteOf N k : Int) := by
  rw [byteOf]
  have e : ((2 : Int) ^ (8 * k)) = (((2 : Nat) ^ (8 * k) : Nat) : Int) := by simp
  rw [e]; omega

/-- 'string(b)' of a row of the call's own. -/
theorem conv_row {w : World} {B : Nat} {v : Value} {n : Nat} {xs : List Int} (h : w.ownsRow B 5 1 v n (xs.map (Value.int .u8))) :
    (convert 66 9 v).run Try.prog w = .ok (.string (strOfNums xs)) w := by
  have hl := h.1
  rw [List.length_map] at hl
  rcases h.2 with ⟨rfl, rfl⟩ | ⟨g, cap, cur, rfl, _, hg, hnc, _, hcs, ht⟩
  · have hx : xs = [] := List.eq_nil_of_length_eq_zero (by omega)
    subst hx
    exact run_convert_bytes_nil w 66 5 Try.underlying66 Try.underlying5 0 0 9 Try.underlying9
  · refine run_convert_bytes_arg w 66 5 Try.underlying66 Try.underlying5 g 0 n cap xs (by omega) (fun i hi => ?_) 9 Try.underlying9
    rw [cell_of_row w g (0 + i) cur 5 (0, 0) hg, Nat.zero_add]
    have : cur.toList[i]? = (xs.map (Value.int .u8))[i]? := by rw [← ht, List.getElem?_take, if_pos (by omega)]
    rw [Array.getElem?_toList] at this
    rw [this]
    simp [List.getElem?_eq_getElem (show i < xs.length by omega)]

set_option maxRecDepth 100000 in
set_option maxHeartbeats 400000 in
theorem payloadText_any (N : Nat) (n : Nat) (w : World) (hn : n ≤ 8) :
    Calls Try.prog 51 #[.int .u64 N, .int .i64 n] w fun e w' => e = .returned (.string (payB N n)) ∧ Below w.heap.size w w' := by
  obtain ⟨i0, hinf, hz0, hz1, hz2⟩ := info_parts Try.infoU8
  have HINF := hide hinf
  have HZ0 := hide hz0
  have HZ1 := hide hz1
  have HZ2 := hide hz2
  clear hinf hz0 hz1 hz2
  go_enter Try.func51, Try.ntmps51
  go_wp2
  go_loopw [5, 6] (fun v i wr => ∃ k : Nat, k ≤ n ∧ i = .int .i64 k ∧ wr.ownsRow w.heap.size 5 1 v k ((bytesL N k).map (Value.int .u8)) ∧ Below w.heap.size w wr) (fun _ i _ => n - (intOf i).toNat)
  case atStart =>
    exact ⟨0, by omega, rfl, ⟨by simp [bytesL], .inr ⟨w.heap.size, 0, #[], rfl, Nat.le_refl _, blk_new _ _, by simp, by simp [maxLen], by simp, by simp [bytesL]⟩⟩, (Below.refl _ _).alloc (Nat.le_refl _) _⟩
  case round =>
    obtain ⟨k, hk, rfl, hown, hb⟩ := hrel
    obtain ⟨sa, cap, rfl⟩ := ownsRow_form hown
    have HOWN := hide hown
    have HB := hide hb
    clear hown hb
    by_cases hlt : k < n
    · have hbs := byte_step N k
      have HBN := hide (show (0 : Int) ≤ byteOf N k by omega)
      go_wp2_with (at_builtin; refine wpList_append_own _ rfl _ _ 66 rfl w.heap.size 5 i0 _ 1 1 Try.underlying66 (unhide HINF) (unhide HZ0) (unhide HZ1) (unhide HZ2) rfl (by decide) _ _ _ rfl ((unhide HOWN).alloc _) ⟨wr.heap.size, 0, none⟩ 1 1 [.int .u8 (byteOf N k)] rfl rfl ?c1 ?c2 ?c3 ?c4 ?c5 ?_)
      case c1 => exact new_cells (blk_new _ _)
      case c2 => simp [Value.oneCell']
      case c3 => unfold maxLen; omega
      case c4 => omega
      case c5 => have := (unhide HB).size; simp; omega
      intro v3 w3 hown3 hgrow _
      obtain ⟨a3, cap3, rfl⟩ := ownsRow_form hown3
      have HB3 := hide (Below.grown ((unhide HB).alloc (unhide HB).size _) hgrow (by have := (unhide HB).size; simp; omega) (fun k hk => ((unhide HOWN).lt k hk).1))
      have HOWN3 := hide hown3
      clear hown3 hgrow hbs
      go_wp2
      go_roundw
      case rel =>
        refine ⟨k + 1, by omega, by go_num, ?_, unhide HB3⟩
        have := unhide HOWN3
        rw [bytesL_succ, List.map_append]
        exact this
      case measure => simp [intOf]; omega
    · have hkn : k = n := by omega
      have hconv := conv_row (unhide HOWN)
      have HK := hide hkn
      clear hkn
      go_wp2
      go_ret
      exact ⟨by rw [payB, ← unhide HK]; rfl, unhide HB⟩

end Go.Proofs.Ytoihlnjcgopdlab

namespace Go.Proofs.Ytoihlnjcgopdlab
open Go.RowKit

/-- The bytes of a text, as numbers. -/
def bl (s : ByteArray) : List Int := (List.range s.size).map (bt s)
theorem bl_len (s : ByteArray) : (bl s).length = s.size := by simp [bl]
theorem bl_get (s : ByteArray) (k : Nat) : (bl s).getD k 0 = bt s k := by
  by_cases h : k < s.size
  · simp [bl, h]
  · simp [bl, h, bt]
theorem bl_byts (s : ByteArray) : Byts (bl s) := by
  intro c hc
  rw [bl, List.mem_map] at hc
  obtain ⟨k, _, rfl⟩ := hc
  exact ⟨bt_lo s k, bt_hi s k⟩
theorem str_bl (s : ByteArray) : strOfNums (bl s) = s := by
  apply ByteArray.ext
  apply Array.ext
  · simp [strOfNums, bl]
  · intro i h1 h2
    have h3 : i < s.size := h2
    simp [strOfNums, bl, bt, h3]
    rfl
theorem bt_str {xs : List Int} (h : Byts xs) (k : Nat) : bt (strOfNums xs) k = xs.getD k 0 := by
  by_cases hk : k < xs.length
  · have hk2 : k < (strOfNums xs).size := by rw [strOfNums_size]; exact hk
    rw [← bt_of hk2]
    have hb := h xs[k] (List.getElem_mem hk)
    have : (strOfNums xs)[k] = UInt8.ofNat xs[k].toNat := by simp [strOfNums, ByteArray.getElem_eq_getElem_data]
    rw [this, UInt8.toNat_ofNat', Nat.mod_eq_of_lt (by omega)]
    simp [hk]; omega
  · have hk2 : ¬ k < (strOfNums xs).size := by rw [strOfNums_size]; exact hk
    rw [bt, dif_neg hk2]; simp [hk]
theorem bl_str {xs : List Int} (h : Byts xs) : bl (strOfNums xs) = xs := by
  apply List.ext_getElem
  · rw [bl_len, strOfNums_size]
  · intro i h1 h2
    simp only [bl, List.getElem_map, List.getElem_range]
    rw [bt_str h]; simp [h2]
theorem strn_inj {xs ys : List Int} (hx : Byts xs) (hy : Byts ys) (h : strOfNums xs = strOfNums ys) : xs = ys := by rw [← bl_str hx, ← bl_str hy, h]
theorem str_app (a b : List Int) : strOfNums (a ++ b) = strOfNums a ++ strOfNums b := by
  apply ByteArray.ext
  simp [strOfNums, ByteArray.data_append]
theorem bits_byts {xs : List Int} (h : ∀ c ∈ xs, c = 48 ∨ c = 49) : Byts xs := fun c hc => by rcases h c hc with h | h <;> omega
theorem bl_drop {s : ByteArray} {k : Nat} (h : k < s.size) : (bl s).drop k = bt s k :: (bl s).drop (k + 1) := by
  have hl := bl_len s
  rw [List.drop_eq_getElem_cons (by omega)]
  congr 1
  simp [bl]
theorem bl_drop_end {s : ByteArray} {k : Nat} (h : s.size ≤ k) : (bl s).drop k = [] := List.drop_eq_nil_of_le (by rw [bl_len]; exact h)
theorem bl_take {s : ByteArray} {k : Nat} (h : k < s.size) : (bl s).take (k + 1) = (bl s).take k ++ [bt s k] := by
  have hl := bl_len s
  rw [List.take_succ_eq_append_getElem (by omega)]
  simp [bl]
theorem bl_take_all (s : ByteArray) : (bl s).take s.size = bl s := List.take_of_length_le (by rw [bl_len]; omega)

theorem i64_and_nat (a b : Nat) (ha : a < 9223372036854775808) (hb : b < 9223372036854775808) : bits BinOp.and IntKind.i64 (a : Int) (b : Int) = ((a &&& b : Nat) : Int) := by
  have hle : a &&& b ≤ a := Nat.and_le_left
  show IntKind.i64.wrap ((BitVec.ofInt 64 (a : Int) &&& BitVec.ofInt 64 (b : Int)).toNat : Int) = _
  rw [BitVec.ofInt_natCast, BitVec.ofInt_natCast, BitVec.toNat_and, BitVec.toNat_ofNat, BitVec.toNat_ofNat, Nat.mod_eq_of_lt (by omega), Nat.mod_eq_of_lt (by omega), IntKind.wrap_i64]
  omega
theorem i64_xor_nat (a b : Nat) (ha : a < 65536) (hb : b < 65536) : bits BinOp.xor IntKind.i64 (a : Int) (b : Int) = ((a ^^^ b : Nat) : Int) := by
  have hlt : a ^^^ b < 2 ^ 16 := Nat.xor_lt_two_pow (by omega) (by omega)
  show IntKind.i64.wrap ((BitVec.ofInt 64 (a : Int) ^^^ BitVec.ofInt 64 (b : Int)).toNat : Int) = _
  rw [BitVec.ofInt_natCast, BitVec.ofInt_natCast, BitVec.toNat_xor, BitVec.toNat_ofNat, BitVec.toNat_ofNat, Nat.mod_eq_of_lt (by omega), Nat.mod_eq_of_lt (by omega), IntKind.wrap_i64]
  omega

end Go.Proofs.Ytoihlnjcgopdlab

namespace Go.Proofs.Ytoihlnjcgopdlab
open Go.RowKit

/-- A bit of a number, as the program finds it. -/
theorem dig_and (v j : Nat) (hv : v < 65536) : bits BinOp.and IntKind.i64 ((v : Int) / 2 ^ j) 1 = ((v / 2 ^ j % 2 : Nat) : Int) := by
  have e : ((v : Int) / 2 ^ j) = ((v / 2 ^ j : Nat) : Int) := by simp
  have hle : v / 2 ^ j ≤ v := Nat.div_le_self _ _
  have h1 := i64_and_nat (v / 2 ^ j) 1 (by omega) (by omega)
  rw [e]
  rw [show ((1 : Nat) : Int) = 1 from rfl] at h1
  rw [h1, Nat.and_one_is_mod]

set_option maxRecDepth 100000 in
set_option maxHeartbeats 1000000 in
theorem numberText_any (v n : Nat) (w : World) (hv : v < 65536) (hn : n ≤ 16) :
    Calls Try.prog 62 #[.int .i64 v, .int .i64 n] w fun e w' => e = .returned (.string (strOfNums (numP v n n))) ∧ Below w.heap.size w w' := by
  obtain ⟨i0, hinf, hz0, hz1, hz2⟩ := info_parts Try.infoU8
  have HINF := hide hinf
  have HZ0 := hide hz0
  have HZ1 := hide hz1
  have HZ2 := hide hz2
  clear hinf hz0 hz1 hz2
  go_enter Try.func62, Try.ntmps62
  go_wp2
  go_loopw [5, 6, 7] (fun v1 i _ wr => ∃ k : Nat, k ≤ n ∧ i = .int .i64 ((n : Int) - 1 - (k : Int)) ∧ wr.ownsRow w.heap.size 5 1 v1 k ((numP v n k).map (Value.int .u8)) ∧ Below w.heap.size w wr) (fun _ i _ _ => (intOf i + 1).toNat)
  case atStart =>
    exact ⟨0, by omega, by go_num, ⟨by simp [numP], .inr ⟨w.heap.size, 0, #[], rfl, Nat.le_refl _, blk_new _ _, by simp, by simp [maxLen], by simp, by simp [numP]⟩⟩, (Below.refl _ _).alloc (Nat.le_refl _) _⟩
  case round =>
    obtain ⟨k, hk, rfl, hown, hb⟩ := hrel
    obtain ⟨sa, cap, rfl⟩ := ownsRow_form hown
    have HOWN := hide hown
    have HB := hide hb
    clear hown hb
    by_cases hlt : k < n
    · obtain ⟨j, hj⟩ : ∃ j, j = n - 1 - k := ⟨_, rfl⟩
      have hji : (n : Int) - 1 - (k : Int) = j := by omega
      rw [hji]
      have HJ := hide hj
      have hbs := dig_and v j hv
      have hdb : v / 2 ^ j % 2 < 2 := Nat.mod_lt _ (by omega)
      obtain ⟨d, hd⟩ : ∃ d, d = v / 2 ^ j % 2 := ⟨_, rfl⟩
      have HD := hide (show dig v j = 48 + (d : Int) by rw [dig, hd])
      rw [← hd] at hbs hdb
      have hj15 : j ≤ 15 := by omega
      clear hd hj hji
      go_wp2_with (at_builtin; refine wpList_append_own _ rfl _ _ 66 rfl w.heap.size 5 i0 _ 1 1 Try.underlying66 (unhide HINF) (unhide HZ0) (unhide HZ1) (unhide HZ2) rfl (by decide) _ _ _ rfl ((unhide HOWN).alloc _) ⟨wr.heap.size, 0, none⟩ 1 1 [.int .u8 (48 + (d : Int))] rfl rfl ?c1 ?c2 ?c3 ?c4 ?c5 ?_)
      case c1 => exact new_cells (blk_new _ _)
      case c2 => simp [Value.oneCell']
      case c3 => unfold maxLen; omega
      case c4 => omega
      case c5 => have := (unhide HB).size; simp; omega
      intro v3 w3 hown3 hgrow _
      obtain ⟨a3, cap3, rfl⟩ := ownsRow_form hown3
      have HB3 := hide (Below.grown ((unhide HB).alloc (unhide HB).size _) hgrow (by have := (unhide HB).size; simp; omega) (fun k hk => ((unhide HOWN).lt k hk).1))
      have HOWN3 := hide hown3
      clear hown3 hgrow hbs
      go_wp2
      go_roundw
      case rel =>
        refine ⟨k + 1, by omega, by have := unhide HJ; go_num, ?_, unhide HB3⟩
        have := unhide HOWN3
        rw [numP_succ, List.map_append, ← unhide HJ, unhide HD]
        exact this
      case measure => simp [intOf]
    · have hconv := conv_row (unhide HOWN)
      have HK := hide (show k = n by omega)
      rw [show (n : Int) - 1 - (k : Int) = -1 by omega]
      go_wp2
      go_ret
      exact ⟨by rw [← unhide HK]; try rfl, unhide HB⟩

set_option maxRecDepth 100000 in
set_option maxHeartbeats 400000 in
theorem textNumber_any (s : ByteArray) (w : World) (hs : s.size ≤ 16) :
    Calls Try.prog 68 #[.string s] w fun e w' => e = .returned (.int .i64 (valT (bt s) s.size)) ∧ w' = w := by
  go_enter Try.func68, Try.ntmps68
  go_wp2
  go_loop [3, 4] (fun v r => ∃ k : Nat, k ≤ s.size ∧ r = .int .i64 k ∧ v = .int .i64 (valT (bt s) k)) (fun _ r => s.size - (intOf r).toNat)
  case atStart => exact ⟨0, by omega, rfl, rfl⟩
  case round =>
    obtain ⟨k, hk, rfl, rfl⟩ := hrel
    have hlt2 := valT_lt (bt s) k
    have hpw : 2 ^ k ≤ 2 ^ 16 := Nat.pow_le_pow_right (by omega) (by omega)
    have hv : valT (bt s) k < 65536 := by omega
    clear hlt2 hpw
    by_cases hlt : k < s.size
    · have e := bt_of hlt
      by_cases h1 : bt s k = 49
      · have HS := hide (show valT (bt s) (k + 1) = 2 * valT (bt s) k + 1 by rw [valT, if_pos h1])
        have hb : ((s[k].toNat : Int) == 49) = true := by rw [e, h1]; rfl
        clear e h1
        go_wp2
        go_round
        case rel => exact ⟨k + 1, by omega, by go_num, by rw [unhide HS]; go_num⟩
        case measure => simp [intOf]; omega
      · have HS := hide (show valT (bt s) (k + 1) = 2 * valT (bt s) k by rw [valT, if_neg h1]; rfl)
        have hb : ((s[k].toNat : Int) == 49) = false := by rw [e]; simpa using h1
        clear e h1
        go_wp2
        go_round
        case rel => exact ⟨k + 1, by omega, by go_num, by rw [unhide HS]; go_num⟩
        case measure => simp [intOf]; omega
    · have hkk : k = s.size := by omega
      have HK := hide hkk
      clear hkk
      go_wp2
      go_ret
      exact ⟨ret_int (by rw [← unhide HK]), rfl⟩

theorem runLength_any (run : Nat) (last c : Int) (w : World) (hr : run ≤ 1000) :
    Calls Try.prog 88 #[.int .i64 run, .int .u8 last, .int .u8 c] w fun e w' => e = .returned (.int .i64 (runN run last c)) ∧ w' = w := by
  by_cases h : c = last
  · have hb : (c == last) = true := by simpa using h
    have HS := hide (show runN run last c = run + 1 by rw [runN, if_pos h])
    clear h
    go_enter Try.func88, Try.ntmps88
    go_wp2
    go_ret
    exact ⟨ret_int (by rw [unhide HS]; rfl), rfl⟩
  · have hb : (c == last) = false := by simpa using h
    have HS := hide (show runN run last c = 1 by rw [runN, if_neg h])
    clear h
    go_enter Try.func88, Try.ntmps88
    go_wp2
    go_ret
    exact ⟨ret_int (by rw [unhide HS]; rfl), rfl⟩

theorem otherBit_any (c : Int) (w : World) :
    Calls Try.prog 89 #[.int .u8 c] w fun e w' => e = .returned (.int .u8 (oth c)) ∧ w' = w := by
  by_cases h : c = 48
  · have hb : (c == 48) = true := by simpa using h
    have HS := hide (show oth c = 49 by rw [oth, if_pos h])
    clear h
    go_enter Try.func89, Try.ntmps89
    go_wp2
    go_ret
    exact ⟨ret_int (by rw [unhide HS]), rfl⟩
  · have hb : (c == 48) = false := by simpa using h
    have HS := hide (show oth c = 48 by rw [oth, if_neg h])
    clear h
    go_enter Try.func89, Try.ntmps89
    go_wp2
    go_ret
    exact ⟨ret_int (by rw [unhide HS]), rfl⟩

/-- The sign of a worth. -/
def hexd (x : Nat) : Int := if x < 10 then 48 + (x : Int) else 55 + (x : Int)
theorem hexd_rng {x : Nat} (h : x < 16) : 48 ≤ hexd x ∧ hexd x ≤ 70 := by unfold hexd; split <;> omega
def hexP (x k : Nat) : List Int := (List.range k).map fun j => hexd (x / 16 ^ (2 - j) % 16)
theorem hexP_succ (x k : Nat) : hexP x (k + 1) = hexP x k ++ [hexd (x / 16 ^ (2 - k) % 16)] := by simp [hexP, List.range_succ]

theorem hexDigit_any (x : Nat) (w : World) (h : x < 16) :
    Calls Try.prog 69 #[.int .i64 x] w fun e w' => e = .returned (.int .u8 (hexd x)) ∧ w' = w := by
  by_cases h1 : x < 10
  · have HS := hide (show hexd x = 48 + (x : Int) by rw [hexd, if_pos h1])
    go_enter Try.func69, Try.ntmps69
    go_wp2
    go_ret
    exact ⟨ret_int (by rw [unhide HS]), rfl⟩
  · have HS := hide (show hexd x = 55 + (x : Int) by rw [hexd, if_neg h1])
    go_enter Try.func69, Try.ntmps69
    go_wp2
    go_ret
    exact ⟨ret_int (by rw [unhide HS]; go_num), rfl⟩

end Go.Proofs.Ytoihlnjcgopdlab

namespace Go.Proofs.Ytoihlnjcgopdlab
open Go.RowKit

theorem hex_and (x j : Nat) (hx : x < 65536) : bits BinOp.and IntKind.i64 ((x : Int) / 2 ^ (4 * j)) 15 = ((x / 16 ^ j % 16 : Nat) : Int) := by
  have e : ((x : Int) / 2 ^ (4 * j)) = ((x / 2 ^ (4 * j) : Nat) : Int) := by simp
  have hle : x / 2 ^ (4 * j) ≤ x := Nat.div_le_self _ _
  have h1 := i64_and_nat (x / 2 ^ (4 * j)) 15 (by omega) (by omega)
  have h2 : (2 : Nat) ^ (4 * j) = 16 ^ j := by rw [Nat.pow_mul]
  rw [e, show (15 : Int) = ((15 : Nat) : Int) from rfl, h1, show (15 : Nat) = 2 ^ 4 - 1 from rfl, Nat.and_two_pow_sub_one_eq_mod, h2]

set_option maxRecDepth 100000 in
set_option maxHeartbeats 1000000 in
theorem idText_any (x : Nat) (w : World) (hx : x < 2048) :
    Calls Try.prog 38 #[.int .i64 x] w fun e w' => e = .returned (.string (strOfNums (hexP x 3))) ∧ Below w.heap.size w w' := by
  obtain ⟨i0, hinf, hz0, hz1, hz2⟩ := info_parts Try.infoU8
  have HINF := hide hinf
  have HZ0 := hide hz0
  have HZ1 := hide hz1
  have HZ2 := hide hz2
  clear hinf hz0 hz1 hz2
  go_enter Try.func38, Try.ntmps38
  go_wp2
  go_loopw [3, 4, 5] (fun v1 i _ wr => ∃ k : Nat, k ≤ 3 ∧ i = .int .i64 (2 - (k : Int)) ∧ wr.ownsRow w.heap.size 5 1 v1 k ((hexP x k).map (Value.int .u8)) ∧ Below w.heap.size w wr) (fun _ i _ _ => (intOf i + 1).toNat)
  case atStart =>
    exact ⟨0, by omega, by go_num, ⟨by simp [hexP], .inr ⟨w.heap.size, 0, #[], rfl, Nat.le_refl _, blk_new _ _, by simp, by simp [maxLen], by simp, by simp [hexP]⟩⟩, (Below.refl _ _).alloc (Nat.le_refl _) _⟩
  case round =>
    obtain ⟨k, hk, rfl, hown, hb⟩ := hrel
    obtain ⟨sa, cap, rfl⟩ := ownsRow_form hown
    have HOWN := hide hown
    have HB := hide hb
    clear hown hb
    by_cases hlt : k < 3
    · obtain ⟨j, hj⟩ : ∃ j, j = 2 - k := ⟨_, rfl⟩
      have hji : (2 : Int) - (k : Int) = j := by omega
      rw [hji]
      have hbs := hex_and x j (by omega)
      have hq : x / 16 ^ j % 16 < 16 := Nat.mod_lt _ (by omega)
      obtain ⟨q, hqq⟩ : ∃ q, q = x / 16 ^ j % 16 := ⟨_, rfl⟩
      rw [← hqq] at hbs hq
      have HQ := hide hqq
      have HJ := hide hj
      have hj2 : j ≤ 2 := by omega
      clear hqq hj hji
      go_wp2_with fail
      refine (hexDigit_any q _ hq).mono ?_
      rintro e w2 ⟨rfl, rfl⟩
      have hr := hexd_rng hq
      go_wp2_with (at_builtin; refine wpList_append_own _ rfl _ _ 66 rfl w.heap.size 5 i0 _ 1 1 Try.underlying66 (unhide HINF) (unhide HZ0) (unhide HZ1) (unhide HZ2) rfl (by decide) _ _ _ rfl ((unhide HOWN).alloc _) ⟨w2.heap.size, 0, none⟩ 1 1 [.int .u8 (hexd q)] rfl rfl ?c1 ?c2 ?c3 ?c4 ?c5 ?_)
      case c1 => exact new_cells (blk_new _ _)
      case c2 => simp [Value.oneCell']
      case c3 => unfold maxLen; omega
      case c4 => omega
      case c5 => have := (unhide HB).size; simp; omega
      intro v3 w3 hown3 hgrow _
      obtain ⟨a3, cap3, rfl⟩ := ownsRow_form hown3
      have HB3 := hide (Below.grown ((unhide HB).alloc (unhide HB).size _) hgrow (by have := (unhide HB).size; simp; omega) (fun k hk => ((unhide HOWN).lt k hk).1))
      have HOWN3 := hide hown3
      clear hown3 hgrow hbs
      go_wp2
      go_roundw
      case rel =>
        refine ⟨k + 1, by omega, by have := unhide HJ; go_num, ?_, unhide HB3⟩
        have := unhide HOWN3
        rw [hexP_succ, List.map_append, ← unhide HJ, ← unhide HQ]
        exact this
      case measure => simp [intOf]
    · have hconv := conv_row (unhide HOWN)
      have HK := hide (show k = 3 by omega)
      rw [show (2 : Int) - (k : Int) = -1 by omega]
      go_wp2
      go_ret
      exact ⟨by rw [← unhide HK]; try rfl, unhide HB⟩

theorem sum_tt {c : Nat} {b : Int} (h1 : b = 49) (h2 : 32768 ≤ 2 * c) : sumStep c b = 2 * c % 32768 := by simp [sumStep, h1, h2]
theorem sum_tf {c : Nat} {b : Int} (h1 : b = 49) (h2 : ¬ 32768 ≤ 2 * c) : sumStep c b = (2 * c ^^^ 17817) % 32768 := by simp [sumStep, h1, h2]
theorem sum_ft {c : Nat} {b : Int} (h1 : ¬ b = 49) (h2 : 32768 ≤ 2 * c) : sumStep c b = (2 * c ^^^ 17817) % 32768 := by simp [sumStep, h1, h2]
theorem sum_ff {c : Nat} {b : Int} (h1 : ¬ b = 49) (h2 : ¬ 32768 ≤ 2 * c) : sumStep c b = 2 * c % 32768 := by simp [sumStep, h1, h2]

set_option maxRecDepth 100000 in
set_option maxHeartbeats 1000000 in
theorem bitsSum_any (s : ByteArray) (w : World) (hs : s.size ≤ 1000) :
    Calls Try.prog 61 #[.string s] w fun e w' => e = .returned (.int .i64 (sumF (bt s) s.size)) ∧ w' = w := by
  go_enter Try.func61, Try.ntmps61
  go_wp2
  go_loop [3, 4] (fun v r => ∃ k : Nat, k ≤ s.size ∧ r = .int .i64 k ∧ v = .int .i64 (sumF (bt s) k)) (fun _ r => s.size - (intOf r).toNat)
  case atStart => exact ⟨0, by omega, rfl, rfl⟩
  case round =>
    obtain ⟨k, hk, rfl, rfl⟩ := hrel
    have hc := sumF_lt (bt s) k
    by_cases hlt : k < s.size
    · have e := bt_of hlt
      obtain ⟨c, hcc⟩ : ∃ c, c = sumF (bt s) k := ⟨_, rfl⟩
      have HS := hide (show sumF (bt s) (k + 1) = sumStep c (bt s k) by rw [sumF, hcc])
      rw [← hcc] at hc
      rw [← hcc]
      clear hcc
      have hx := i64_xor_nat (2 * c) 17817 (by omega) (by omega)
      rw [show ((17817 : Nat) : Int) = 17817 from rfl] at hx
      have hxl : (2 * c) ^^^ 17817 < 65536 := Nat.xor_lt_two_pow (n := 16) (by omega) (by omega)
      obtain ⟨y, hy⟩ : ∃ y, y = (2 * c) ^^^ 17817 := ⟨_, rfl⟩
      rw [← hy] at hx hxl
      have hx2 : bits BinOp.xor IntKind.i64 ((c : Int) * 2) 17817 = (y : Int) := by rw [← hx]; congr 1; omega
      by_cases h1 : bt s k = 49
      · have hb : ((s[k].toNat : Int) == 49) = true := by rw [e, h1]; rfl
        by_cases h2 : 32768 ≤ 2 * c
        · have HV := hide (sum_tt h1 h2)
          have hd : (!decide ((32768 : Int) ≤ (c : Int) * 2)) = false := by simp; omega
          clear e h1 hy hx
          go_wp2
          go_round
          case rel => exact ⟨k + 1, by omega, by go_num, by rw [unhide HS, unhide HV]; go_num⟩
          case measure => simp [intOf]; omega
        · have HV := hide (show sumStep c (bt s k) = y % 32768 by rw [sum_tf h1 h2, hy])
          have hd : (!decide ((32768 : Int) ≤ (c : Int) * 2)) = true := by simp; omega
          clear e h1 hy hx
          go_wp2
          go_round
          case rel => exact ⟨k + 1, by omega, by go_num, by rw [unhide HS, unhide HV]; go_num⟩
          case measure => simp [intOf]; omega
      · have hb : ((s[k].toNat : Int) == 49) = false := by rw [e]; simpa using h1
        by_cases h2 : 32768 ≤ 2 * c
        · have HV := hide (show sumStep c (bt s k) = y % 32768 by rw [sum_ft h1 h2, hy])
          have hd : decide ((32768 : Int) ≤ (c : Int) * 2) = true := by simp; omega
          clear e h1 hy hx
          go_wp2
          go_round
          case rel => exact ⟨k + 1, by omega, by go_num, by rw [unhide HS, unhide HV]; go_num⟩
          case measure => simp [intOf]; omega
        · have HV := hide (sum_ff h1 h2)
          have hd : decide ((32768 : Int) ≤ (c : Int) * 2) = false := by simp; omega
          clear e h1 hy hx
          go_wp2
          go_round
          case rel => exact ⟨k + 1, by omega, by go_num, by rw [unhide HS, unhide HV]; go_num⟩
          case measure => simp [intOf]; omega
    · have hkk : k = s.size := by omega
      have HK := hide hkk
      clear hkk
      go_wp2
      go_ret
      exact ⟨ret_int (by rw [← unhide HK]), rfl⟩

end Go.Proofs.Ytoihlnjcgopdlab

namespace Go.Proofs.Ytoihlnjcgopdlab
open Go.RowKit

theorem stuff_step {s : ByteArray} {k r : Nat} {l c : Int} {A X : List Int} (h : A ++ stuffL r l ((bl s).drop k) = X) (hk : k < s.size) (hc : bt s k = c) (h5 : ¬ runN r l c = 5) : (A ++ [c]) ++ stuffL (runN r l c) c ((bl s).drop (k + 1)) = X := by
  rw [bl_drop hk, hc, stuffL, if_neg h5] at h
  rw [← h]; simp
theorem stuff_five {s : ByteArray} {k r : Nat} {l c : Int} {A X : List Int} (h : A ++ stuffL r l ((bl s).drop k) = X) (hk : k < s.size) (hc : bt s k = c) (h5 : runN r l c = 5) : (A ++ [c] ++ [oth c]) ++ stuffL 1 (oth c) ((bl s).drop (k + 1)) = X := by
  rw [bl_drop hk, hc, stuffL, if_pos h5] at h
  rw [← h]; simp
theorem stuff_end {s : ByteArray} {k r : Nat} {l : Int} {A X : List Int} (h : A ++ stuffL r l ((bl s).drop k) = X) (hk : s.size ≤ k) : A = X := by
  rw [bl_drop_end hk, stuffL, List.append_nil] at h; exact h
theorem unst_step {s : ByteArray} {k r : Nat} {l c : Int} {A X : List Int} (h : A ++ unstL r l ((bl s).drop k) = X) (hk : k < s.size) (hc : bt s k = c) (h5 : ¬ r = 5) : (A ++ [c]) ++ unstL (runN r l c) c ((bl s).drop (k + 1)) = X := by
  rw [bl_drop hk, hc, unstL, if_neg h5] at h
  rw [← h]; simp
theorem unst_five {s : ByteArray} {k r : Nat} {l c : Int} {A X : List Int} (h : A ++ unstL r l ((bl s).drop k) = X) (hk : k < s.size) (hc : bt s k = c) (h5 : r = 5) : A ++ unstL (runN 0 l c) c ((bl s).drop (k + 1)) = X := by
  rw [bl_drop hk, hc, unstL, if_pos h5] at h
  rw [runN_zero]; exact h
theorem unst_end {s : ByteArray} {k r : Nat} {l : Int} {A X : List Int} (h : A ++ unstL r l ((bl s).drop k) = X) (hk : s.size ≤ k) : A = X := by
  rw [bl_drop_end hk, unstL, List.append_nil] at h; exact h
theorem oth_bit (c : Int) : oth c = 48 ∨ oth c = 49 := by unfold oth; split <;> simp

set_option maxRecDepth 100000 in
set_option maxHeartbeats 2000000 in
theorem stuffed_any (s : ByteArray) (w : World) (hs : s.size ≤ 1000) :
    Calls Try.prog 63 #[.string s] w fun e w' => e = .returned (.string (strOfNums (stuffL 0 0 (bl s)))) ∧ Below w.heap.size w w' := by
  obtain ⟨i0, hinf, hz0, hz1, hz2⟩ := info_parts Try.infoU8
  have HINF := hide hinf
  have HZ0 := hide hz0
  have HZ1 := hide hz1
  have HZ2 := hide hz2
  clear hinf hz0 hz1 hz2
  obtain ⟨X, HX⟩ : ∃ X, Hid (X = stuffL 0 0 (bl s)) := ⟨_, hide rfl⟩
  rw [← unhide HX]
  go_enter Try.func63, Try.ntmps63
  go_wp2
  go_loopw [3, 4, 5, 6] (fun v rn la i wr => ∃ (k r : Nat) (l : Int) (A : List Int), k ≤ s.size ∧ i = .int .i64 k ∧ rn = .int .i64 r ∧ la = .int .u8 l ∧ r ≤ 4 ∧ A.length ≤ 2 * k ∧ A ++ stuffL r l ((bl s).drop k) = X ∧ wr.ownsRow w.heap.size 5 1 v A.length (A.map (Value.int .u8)) ∧ Below w.heap.size w wr) (fun _ _ _ i _ => s.size - (intOf i).toNat)
  case atStart =>
    exact ⟨0, 0, 0, [], by omega, rfl, rfl, rfl, by omega, by simp, by rw [unhide HX]; rfl, ⟨by simp, .inr ⟨w.heap.size, 0, #[], rfl, Nat.le_refl _, blk_new _ _, by simp, by simp [maxLen], by simp, by simp⟩⟩, (Below.refl _ _).alloc (Nat.le_refl _) _⟩
  case round =>
    obtain ⟨k, r, l, A, hk, rfl, rfl, rfl, hr, hA, hX, hown, hb⟩ := hrel
    obtain ⟨sa, cap, rfl⟩ := ownsRow_form hown
    have HOWN := hide hown
    have HB := hide hb
    have HXX := hide hX
    clear hown hb hX
    by_cases hlt : k < s.size
    · have HE := hide (bt_of hlt)
      go_wp2_with fail
      refine (runLength_any r l _ _ (by omega)).mono ?_
      rintro e w2 ⟨rfl, rfl⟩
      have HC := hide (unhide HE).symm
      have hn := runN_le (l := l) (c := (s[k].toNat : Int)) hr
      by_cases h5 : runN r l (s[k].toNat : Int) = 5
      · have HN := hide (stuff_five (unhide HXX) hlt (unhide HC) h5)
        rw [h5]
        clear hn h5
        go_wp2_with (at_builtin; refine wpList_append_own _ rfl _ _ 66 rfl w.heap.size 5 i0 _ 1 1 Try.underlying66 (unhide HINF) (unhide HZ0) (unhide HZ1) (unhide HZ2) rfl (by decide) _ _ _ rfl ((unhide HOWN).alloc _) ⟨w2.heap.size, 0, none⟩ 1 1 [.int .u8 (s[k].toNat : Int)] rfl rfl ?c1 ?c2 ?c3 ?c4 ?c5 ?_)
        case c1 => exact new_cells (blk_new _ _)
        case c2 => simp [Value.oneCell']
        case c3 => unfold maxLen; omega
        case c4 => omega
        case c5 => have := (unhide HB).size; simp; omega
        intro v3 w3 hown3 hgrow _
        obtain ⟨a3, cap3, rfl⟩ := ownsRow_form hown3
        have HB3 := hide (Below.grown ((unhide HB).alloc (unhide HB).size _) hgrow (by have := (unhide HB).size; simp; omega) (fun k hk => ((unhide HOWN).lt k hk).1))
        have HOWN3 := hide hown3
        clear hown3 hgrow
        go_wp2_with fail
        refine (otherBit_any (s[k].toNat : Int) _).mono ?_
        rintro e w4 ⟨rfl, rfl⟩
        have ho := oth_bit (s[k].toNat : Int)
        go_wp2_with (at_builtin; refine wpList_append_own _ rfl _ _ 66 rfl w.heap.size 5 i0 _ 1 1 Try.underlying66 (unhide HINF) (unhide HZ0) (unhide HZ1) (unhide HZ2) rfl (by decide) _ _ _ rfl ((unhide HOWN3).alloc _) ⟨w4.heap.size, 0, none⟩ 1 1 [.int .u8 (oth (s[k].toNat : Int))] rfl rfl ?c1 ?c2 ?c3 ?c4 ?c5 ?_)
        case c1 => exact new_cells (blk_new _ _)
        case c2 => simp [Value.oneCell']
        case c3 => unfold maxLen; omega
        case c4 => omega
        case c5 => have := (unhide HB3).size; simp; omega
        intro v5 w5 hown5 hgrow5 _
        obtain ⟨a5, cap5, rfl⟩ := ownsRow_form hown5
        have HB5 := hide (Below.grown ((unhide HB3).alloc (unhide HB3).size _) hgrow5 (by have := (unhide HB3).size; simp; omega) (fun k hk => ((unhide HOWN3).lt k hk).1))
        have HOWN5 := hide hown5
        clear hown5 hgrow5
        go_wp2
        go_roundw
        case rel =>
          refine ⟨k + 1, 1, oth (s[k].toNat : Int), A ++ [(s[k].toNat : Int)] ++ [oth (s[k].toNat : Int)], by omega, by go_num, rfl, rfl, by omega, by simp; omega, unhide HN, ?_, unhide HB5⟩
          have := unhide HOWN5
          rw [List.append_assoc, List.map_append, List.length_append]
          exact this
        case measure => simp [intOf]; omega
      · have HN := hide (stuff_step (unhide HXX) hlt (unhide HC) h5)
        obtain ⟨q, hq⟩ : ∃ q, q = runN r l (s[k].toNat : Int) := ⟨_, rfl⟩
        rw [← hq] at hn h5 HN
        rw [← hq]
        have h5b : ((q : Int) == 5) = false := by simp; omega
        clear hq
        go_wp2_with (at_builtin; refine wpList_append_own _ rfl _ _ 66 rfl w.heap.size 5 i0 _ 1 1 Try.underlying66 (unhide HINF) (unhide HZ0) (unhide HZ1) (unhide HZ2) rfl (by decide) _ _ _ rfl ((unhide HOWN).alloc _) ⟨w2.heap.size, 0, none⟩ 1 1 [.int .u8 (s[k].toNat : Int)] rfl rfl ?c1 ?c2 ?c3 ?c4 ?c5 ?_)
        case c1 => exact new_cells (blk_new _ _)
        case c2 => simp [Value.oneCell']
        case c3 => unfold maxLen; omega
        case c4 => omega
        case c5 => have := (unhide HB).size; simp; omega
        intro v3 w3 hown3 hgrow _
        obtain ⟨a3, cap3, rfl⟩ := ownsRow_form hown3
        have HB3 := hide (Below.grown ((unhide HB).alloc (unhide HB).size _) hgrow (by have := (unhide HB).size; simp; omega) (fun k hk => ((unhide HOWN).lt k hk).1))
        have HOWN3 := hide hown3
        clear hown3 hgrow
        go_wp2
        go_roundw
        case rel =>
          refine ⟨k + 1, q, (s[k].toNat : Int), A ++ [(s[k].toNat : Int)], by omega, by go_num, rfl, rfl, by omega, by simp; omega, unhide HN, ?_, unhide HB3⟩
          have := unhide HOWN3
          rw [List.map_append, List.length_append]
          exact this
        case measure => simp [intOf]; omega
    · have hend := stuff_end (unhide HXX) (by omega)
      have hconv := conv_row (unhide HOWN)
      have HK := hide hend
      clear hend
      go_wp2
      go_ret
      exact ⟨by rw [← unhide HK]; try rfl, unhide HB⟩

set_option maxRecDepth 100000 in
set_option maxHeartbeats 2000000 in
theorem unstuffed_any (s : ByteArray) (w : World) (hs : s.size ≤ 1000) :
    Calls Try.prog 67 #[.string s] w fun e w' => e = .returned (.string (strOfNums (unstL 0 0 (bl s)))) ∧ Below w.heap.size w w' := by
  obtain ⟨i0, hinf, hz0, hz1, hz2⟩ := info_parts Try.infoU8
  have HINF := hide hinf
  have HZ0 := hide hz0
  have HZ1 := hide hz1
  have HZ2 := hide hz2
  clear hinf hz0 hz1 hz2
  obtain ⟨X, HX⟩ : ∃ X, Hid (X = unstL 0 0 (bl s)) := ⟨_, hide rfl⟩
  rw [← unhide HX]
  go_enter Try.func67, Try.ntmps67
  go_wp2
  go_loopw [3, 4, 5, 6] (fun v rn la i wr => ∃ (k r : Nat) (l : Int) (A : List Int), k ≤ s.size ∧ i = .int .i64 k ∧ rn = .int .i64 r ∧ la = .int .u8 l ∧ r ≤ 5 ∧ A.length ≤ k ∧ A ++ unstL r l ((bl s).drop k) = X ∧ wr.ownsRow w.heap.size 5 1 v A.length (A.map (Value.int .u8)) ∧ Below w.heap.size w wr) (fun _ _ _ i _ => s.size - (intOf i).toNat)
  case atStart =>
    exact ⟨0, 0, 0, [], by omega, rfl, rfl, rfl, by omega, by simp, by rw [unhide HX]; rfl, ⟨by simp, .inr ⟨w.heap.size, 0, #[], rfl, Nat.le_refl _, blk_new _ _, by simp, by simp [maxLen], by simp, by simp⟩⟩, (Below.refl _ _).alloc (Nat.le_refl _) _⟩
  case round =>
    obtain ⟨k, r, l, A, hk, rfl, rfl, rfl, hr, hA, hX, hown, hb⟩ := hrel
    obtain ⟨sa, cap, rfl⟩ := ownsRow_form hown
    have HOWN := hide hown
    have HB := hide hb
    have HXX := hide hX
    clear hown hb hX
    by_cases hlt : k < s.size
    · have HE := hide (bt_of hlt)
      obtain ⟨c, hc⟩ : ∃ c : Int, c = (s[k].toNat : Int) := ⟨_, rfl⟩
      have HC := hide (show bt s k = c by rw [hc]; exact (unhide HE).symm)
      have hc0 : 0 ≤ c := by omega
      have hc1 : c ≤ 255 := by have := s[k].toNat_lt; omega
      have HCC := hide hc
      clear hc
      by_cases h5 : r = 5
      · have HN := hide (unst_five (unhide HXX) hlt (unhide HC) h5)
        have hn := runN_zero l c
        subst h5
        go_wp2_with fail
        refine (runLength_any 0 l _ _ (by omega)).mono ?_
        rintro e w2 ⟨rfl, rfl⟩
        rw [← unhide HCC]
        rw [hn] at HN
        rw [hn]
        clear hn
        go_wp2
        go_roundw
        case rel => exact ⟨k + 1, 1, c, A, by omega, by go_num, rfl, by rw [unhide HCC], by omega, by omega, unhide HN, unhide HOWN, unhide HB⟩
        case measure => simp [intOf]; omega
      · have HN := hide (unst_step (unhide HXX) hlt (unhide HC) h5)
        have hn := runN_le (run := r) (l := l) (c := c) (by omega)
        have h5b : ((r : Int) == 5) = false := by simp; omega
        go_wp2_with (at_builtin; refine wpList_append_own _ rfl _ _ 66 rfl w.heap.size 5 i0 _ 1 1 Try.underlying66 (unhide HINF) (unhide HZ0) (unhide HZ1) (unhide HZ2) rfl (by decide) _ _ _ rfl ((unhide HOWN).alloc _) ⟨wr.heap.size, 0, none⟩ 1 1 [.int .u8 (s[k].toNat : Int)] rfl rfl ?c1 ?c2 ?c3 ?c4 ?c5 ?_)
        case c1 => exact new_cells (blk_new _ _)
        case c2 => simp [Value.oneCell']
        case c3 => unfold maxLen; omega
        case c4 => omega
        case c5 => have := (unhide HB).size; simp; omega
        intro v3 w3 hown3 hgrow _
        obtain ⟨a3, cap3, rfl⟩ := ownsRow_form hown3
        have HB3 := hide (Below.grown ((unhide HB).alloc (unhide HB).size _) hgrow (by have := (unhide HB).size; simp; omega) (fun k hk => ((unhide HOWN).lt k hk).1))
        have HOWN3 := hide hown3
        clear hown3 hgrow
        go_wp2_with fail
        refine (runLength_any r l _ _ (by omega)).mono ?_
        rintro e w2 ⟨rfl, rfl⟩
        rw [← unhide HCC]
        obtain ⟨q, hq⟩ : ∃ q, q = runN r l c := ⟨_, rfl⟩
        rw [← hq] at hn HN
        rw [← hq]
        clear hq
        go_wp2
        go_roundw
        case rel =>
          refine ⟨k + 1, q, c, A ++ [c], by omega, by go_num, rfl, by rw [unhide HCC], by omega, by simp; omega, unhide HN, ?_, unhide HB3⟩
          have := unhide HOWN3
          rw [List.map_append, List.length_append, unhide HCC]
          exact this
        case measure => simp [intOf]; omega
    · have hend := unst_end (unhide HXX) (by omega)
      have hconv := conv_row (unhide HOWN)
      have HK := hide hend
      clear hend
      go_wp2
      go_ret
      exact ⟨by rw [← unhide HK]; try rfl, unhide HB⟩

end Go.Proofs.Ytoihlnjcgopdlab

namespace Go.Proofs.Ytoihlnjcgopdlab
open Go.RowKit

/-- The number of the message of this id, or -1. -/
def msgIx (M : List Mg) (id : ByteArray) : Int := findIx (fun k => decide ((mAt M k).id = id)) M.length

theorem findIx_congr {f g : Nat → Bool} {n : Nat} (h : ∀ k, k < n → f k = g k) : findIx f n = findIx g n := by
  have hle := firstIx_le f n
  have e : firstIx f n = firstIx g n := by
    by_cases h1 : firstIx f n < n
    · exact (firstIx_is (fun j hj => by rw [← h j (by omega)]; exact firstIx_no f n j hj) h1 (by rw [← h _ h1]; exact firstIx_yes f n h1)).symm
    · have e1 : firstIx f n = n := by omega
      rw [e1]
      exact (firstIx_none (fun j hj => by rw [← h j hj]; exact firstIx_no f n j (by omega))).symm
  rw [findIx, findIx, e]

theorem findIx_cases (f : Nat → Bool) (n : Nat) : (findIx f n = -1 ∧ ∀ j, j < n → f j = false) ∨ ∃ k, k < n ∧ findIx f n = k ∧ f k = true := by
  have hle := firstIx_le f n
  by_cases h1 : firstIx f n < n
  · exact .inr ⟨_, h1, by rw [findIx, if_pos h1], firstIx_yes f n h1⟩
  · exact .inl ⟨by rw [findIx, if_neg h1], fun j hj => firstIx_no f n j (by omega)⟩

theorem idNum_lo (a : ByteArray) : -1 ≤ idNum a ∧ idNum a ≤ 100000 := by
  have h := idTo_hi a 3 (by omega)
  unfold idNum
  split
  · split
    · omega
    · rename_i hb
      have hb' : idBad a = false := by simpa using hb
      have a0 := idBad_all hb' 0 (by omega)
      have a1 := idBad_all hb' 1 (by omega)
      have a2 := idBad_all hb' 2 (by omega)
      have c0 : isHexB (bt a 0) = true := by simp [headB] at a0; simp [isHexB, isDigB]; omega
      have c1 : isHexB (bt a 1) = true := by simpa [headB] using a1
      have c2 : isHexB (bt a 2) = true := by simpa [headB] using a2
      have l0 := hex_lt c0
      have l1 := hex_lt c1
      have l2 := hex_lt c2
      simp only [idTo]
      omega
  · omega
theorem idNum_good {a : ByteArray} (h : a.size = 3) (g : idBad a = false) : 0 ≤ idNum a := by
  rw [idNum, if_pos h, g]
  have a0 := idBad_all g 0 (by omega)
  have a1 := idBad_all g 1 (by omega)
  have a2 := idBad_all g 2 (by omega)
  have c0 : isHexB (bt a 0) = true := by simp [headB] at a0; simp [isHexB, isDigB]; omega
  have c1 : isHexB (bt a 1) = true := by simpa [headB] using a1
  have c2 : isHexB (bt a 2) = true := by simpa [headB] using a2
  have l0 := hex_lt c0
  have l1 := hex_lt c1
  have l2 := hex_lt c2
  simp only [idTo, Bool.false_eq_true, if_false]
  omega

theorem id_eq_any {a b : ByteArray} (ha : a.size = 3) (ga : idBad a = false) : idNum a = idNum b ↔ a = b := by
  constructor
  · intro h
    have h0 := idNum_good ha ga
    by_cases hb : b.size = 3
    · cases gb : idBad b with
      | false => exact (id_inj ha hb ga gb).1 h
      | true => rw [h, idNum, if_pos hb, gb] at h0; simp at h0
    · rw [h, idNum, if_neg hb] at h0; omega
  · rintro rfl; rfl

theorem findM_eq {P : List (Mg × Value)} (hok : ∀ x ∈ P, x.1.Ok) (id : ByteArray) : findM P (idNum id) = msgIx (P.map Prod.fst) id := by
  unfold findM msgIx
  rw [List.length_map]
  refine findIx_congr (fun k hk => ?_)
  have okk := hok _ (mgAt_mem hk)
  rw [mAt_fst, Bool.eq_iff_iff]
  simp only [decide_eq_true_eq]
  exact id_eq_any okk.id okk.good

/-- What soundMessage answers. -/
def MsOut (s id : ByteArray) (e : Ending) (w' : World) : Prop :=
  (chkE s ≠ 0 ∧ e = .returned (.tuple #[.agg #[.int .i64 0, .int .i64 0, .int .i64 0, .slice none 0 0], .int .i64 (chkE s), .int .i64 (chkP s)])) ∨
  (chkE s = 0 ∧ ∃ M, pDb s 4 0 = .inr M ∧ ((msgIx M id = -1 ∧ e = .returned (.tuple #[.agg #[.int .i64 0, .int .i64 0, .int .i64 0, .slice none 0 0], .int .i64 7, .int .i64 0])) ∨
    ∃ (k : Nat) (sv : Value), k < M.length ∧ msgIx M id = k ∧ e = .returned (.tuple #[.agg #[.int .i64 (mAt M k).pl, .int .i64 (idNum (mAt M k).id), .int .i64 (mAt M k).sz, sv], .int .i64 0, .int .i64 0]) ∧ SigsAt w' sv (mAt M k).sigs ∧ (mAt M k).Ok))

theorem set4_sigs {w : World} {B e e' sz : Nat} {v : Value} {n : Nat} {xs : List Value} {cur : Array Value} (h : w.ownsRow 0 e sz v n xs) (hB : w.heap[B]? = some (.cells cur e' (0, 0))) (hne : e ≠ e') (u0 u1 u2 u3 : Value) :
    ((((w.setCell ⟨B, 0, none⟩ u0).setCell ⟨B, 1, none⟩ u1).setCell ⟨B, 2, none⟩ u2).setCell ⟨B, 3, none⟩ u3).ownsRow 0 e sz v n xs := by
  have ha : v.ownBlock ≠ some B := by
    intro hv
    obtain ⟨cur', h2⟩ := ownsRow_block h B hv
    rw [hB] at h2
    simp at h2
    exact hne h2.2.symm
  exact ownsRow_setCell_other (ownsRow_setCell_other (ownsRow_setCell_other (ownsRow_setCell_other h (a := ⟨B, 0, none⟩) ha u0) (a := ⟨B, 1, none⟩) ha u1) (a := ⟨B, 2, none⟩) ha u2) (a := ⟨B, 3, none⟩) ha u3

set_option maxRecDepth 100000 in
set_option maxHeartbeats 1000000 in
theorem soundMessage_any (s id : ByteArray) (w : World) (hs : s.size ≤ maxLen) (hid : id.size ≤ maxLen) :
    Calls Try.prog 47 #[.string s, .string id] w fun e w' => MsOut s id e w' ∧ Below w.heap.size w w' := by
  go_enter Try.func47, Try.ntmps47
  go_wp2_with fail
  refine (soundMessages_any s _ hs).mono ?_
  rintro e w1 ⟨hout, hb1⟩
  have HB1 := hide (show Below (w.heap.size + 1) (w.alloc (.cells #[.int .i64 0, .int .i64 0, .int .i64 0, .slice none 0 0] 82)) w1 from hb1.mono (by simp))
  have hx := fun j => box_cell (unhide HB1) j
  have hlt1 : w.heap.size < w1.heap.size := by have := (unhide HB1).size; simp at this; omega
  have hf := fun j => (unhide HB1).frozen (p := ⟨w.heap.size, j, none⟩) (by simp)
  clear hb1
  rcases hout with ⟨hz, v, P, rfl, hpd, hm, hl, hok⟩ | ⟨hz, rfl⟩
  · have HZ := hide hz
    have HPD := hide hpd
    have HM := hide hm
    have HOK := hide hok
    obtain ⟨sa, cap, rfl⟩ := ownsRow_form hm.1
    clear hz hpd hm hok
    go_wp2_with fail
    refine (idNumber_any id _ hid).mono ?_
    rintro e w2 ⟨rfl, rfl⟩
    go_wp2_with fail
    refine (findMessage_any _ P (idNum id) _ (unhide HM) hl).mono ?_
    rintro e w2 ⟨rfl, rfl⟩
    rw [findM_eq (unhide HOK)]
    rcases findIx_cases (fun k => decide ((mAt (P.map Prod.fst) k).id = id)) (P.map Prod.fst).length with ⟨hn, _⟩ | ⟨k, hk, hkk, _⟩
    · have hn' : msgIx (P.map Prod.fst) id = -1 := hn
      have HN := hide hn'
      rw [hn']
      clear hn hn'
      go_wp2
      exact bodyPost_ret (v := .tuple #[.agg #[.int .i64 0, .int .i64 0, .int .i64 0, .slice none 0 0], .int .i64 7, .int .i64 0]) (by simp [results, Try.results47, go_sem, hx]) rfl ⟨.inr ⟨unhide HZ, _, unhide HPD, .inl ⟨unhide HN, rfl⟩⟩, set4_below (box_below (unhide HB1)) _ _ _ _⟩
    · have hk' : msgIx (P.map Prod.fst) id = k := hkk
      have HK := hide hk'
      have hkl : k < P.length := by simpa using hk
      rw [hk']
      clear hkk hk'
      have OKk := hide (unhide HOK _ (mgAt_mem hkl))
      have hsg : SigsAt w2 (mgAt P k).2 (mgAt P k).1.sigs := (unhide HM).2 _ (mgAt_mem hkl)
      obtain ⟨va, vcap, hva⟩ := ownsRow_form hsg
      rcases (unhide HM).opened with ⟨rfl, _⟩ | ⟨g, cap', hv2, hg, hcap, hcm, hc⟩
      · simp at hkl
      cases hv2
      obtain ⟨c0, c1, c2, c3⟩ := mcells4 hc hg (Below.refl _ _) hkl
      rw [hva] at c3 hsg
      have HSG := hide hsg
      clear hva hsg hc
      unfold maxLen at hcm
      go_wp2
      exact bodyPost_ret (v := .tuple #[.agg #[.int .i64 (mgAt P k).1.pl, .int .i64 (idNum (mgAt P k).1.id), .int .i64 (mgAt P k).1.sz, .slice va (mgAt P k).1.sigs.length vcap], .int .i64 0, .int .i64 0]) (by simp [results, Try.results47, go_sem, hx]) rfl
        ⟨.inr ⟨unhide HZ, _, unhide HPD, .inr ⟨k, _, by simpa using hkl, unhide HK, by rw [mAt_fst], by rw [mAt_fst]; exact set4_sigs (unhide HSG) (by rw [(unhide HB1).block w.heap.size (by omega)]; exact blk_new _ _) (by decide) _ _ _ _, by rw [mAt_fst]; exact unhide OKk⟩⟩, set4_below (box_below (unhide HB1)) _ _ _ _⟩
  · have HZ := hide hz
    have hz2 : (chkE s != 0) = true := by simpa using hz
    clear hz
    go_wp2
    exact bodyPost_ret (v := .tuple #[.agg #[.int .i64 0, .int .i64 0, .int .i64 0, .slice none 0 0], .int .i64 (chkE s), .int .i64 (chkP s)]) (by simp [results, Try.results47, go_sem, hx]) rfl ⟨.inl ⟨unhide HZ, rfl⟩, set4_below (box_below (unhide HB1)) _ _ _ _⟩

end Go.Proofs.Ytoihlnjcgopdlab

namespace Go.Proofs.Ytoihlnjcgopdlab
open Go.RowKit

theorem pSigs_made (s : ByteArray) : ∀ (f i : Nat) (l : List Sg) (e : Nat), pSigs s f i = .inr (l, e) → ∀ x ∈ l, ∃ j, x = mkSig s j := by
  intro f
  induction f with
  | zero => intro i l e h; simp [pSigs] at h; obtain ⟨rfl, rfl⟩ := h; simp
  | succ f ih =>
    intro i l e h
    rw [pSigs] at h
    split at h
    · split at h
      · simp at h
      · cases hp : pSigs s f (i + 9) with
        | inl p => rw [hp] at h; simp at h
        | inr x =>
          obtain ⟨l', e'⟩ := x
          rw [hp] at h
          simp at h
          obtain ⟨rfl, rfl⟩ := h
          intro x hx
          rcases List.mem_cons.1 hx with rfl | hx
          · exact ⟨i, rfl⟩
          · exact ih _ _ _ hp x hx
    · simp at h; obtain ⟨rfl, rfl⟩ := h; simp

theorem pMsg_made {s : ByteArray} {i : Nat} {m : Mg} {e : Nat} (h : pMsg s i = .inr (m, e)) : ∀ x ∈ m.sigs, ∃ j, x = mkSig s j := by
  rw [pMsg] at h
  split at h
  · simp at h
  · cases hp : pSigs s 8 (i + 4) with
    | inl p => rw [hp] at h; simp at h
    | inr x =>
      obtain ⟨l, e'⟩ := x
      rw [hp] at h
      simp at h
      obtain ⟨rfl, rfl⟩ := h
      exact pSigs_made s 8 _ _ _ hp

theorem pDb_made (s : ByteArray) : ∀ (f i : Nat) (M : List Mg), pDb s f i = .inr M → ∀ m ∈ M, m.Ok ∧ ∀ x ∈ m.sigs, ∃ j, x = mkSig s j := by
  intro f
  induction f with
  | zero => intro i M h; simp [pDb] at h
  | succ f ih =>
    intro i M h
    rw [pDb] at h
    cases hp : pMsg s i with
    | inl p => rw [hp] at h; simp at h
    | inr x =>
      obtain ⟨m, e⟩ := x
      rw [hp] at h
      simp only at h
      have hm : m.Ok ∧ ∀ x ∈ m.sigs, ∃ j, x = mkSig s j := ⟨(pMsg_ok hp).1, pMsg_made hp⟩
      split at h
      · simp at h; subst h; intro m' hm'; simp at hm'; subst hm'; exact hm
      · split at h
        · cases hd : pDb s f (e + 1) with
          | inl p => rw [hd] at h; simp at h
          | inr l =>
            rw [hd] at h
            simp at h
            subst h
            intro m' hm'
            rcases List.mem_cons.1 hm' with rfl | hm'
            · exact hm
            · exact ih _ _ hd m' hm'
        · simp at h

theorem mAt_mem {M : List Mg} {k : Nat} (h : k < M.length) : mAt M k ∈ M := by
  rw [mAt, List.getD_eq_getElem?_getD, List.getElem?_eq_getElem h]; exact List.getElem_mem h

theorem good_of {s : ByteArray} {M : List Mg} (h : pDb s 4 0 = .inr M) {k : Nat} (hk : k < M.length) : (mAt M k).Ok ∧ Good (mAt M k).sigs := by
  obtain ⟨h1, h2⟩ := pDb_made s 4 0 M h _ (mAt_mem hk)
  refine ⟨h1, h1.len, fun j hj => ?_⟩
  obtain ⟨i, hi⟩ := h2 (sgAt (mAt M k).sigs j) (by rw [sgAt_eq _ _ hj]; exact List.getElem_mem hj)
  refine ⟨sigs_ok h1 j hj, ?_, ?_⟩
  · rw [hi]; exact bt_lo _ _
  · rw [hi]; exact bt_hi _ _

/-- In a sound database nothing is wrong with any signal. -/
theorem sound_at {s : ByteArray} {M : List Mg} (hz : chkE s = 0) (h : pDb s 4 0 = .inr M) {k : Nat} (hk : k < M.length) {j : Nat} (hj : j < (mAt M k).sigs.length) : errAt (mAt M k).sigs (mAt M k).sz j = 0 := by
  have hl : ¬ 320 < s.size := by
    intro hl
    rw [(chk_long hl).1] at hz; omega
  rw [(chk_db hl h).1] at hz
  have hix : errDbIx M = M.length := by
    have hle := firstIx_le (fun n => decide (mE M n ≠ 0)) M.length
    by_cases h2 : errDbIx M < M.length
    · have := firstIx_yes (fun n => decide (mE M n ≠ 0)) M.length h2
      rw [(errDb_is rfl h2).1] at hz
      simp only [decide_eq_true_eq] at this
      exact absurd hz this
    · unfold errDbIx at h2 ⊢; omega
  have hm := firstIx_no (fun n => decide (mE M n ≠ 0)) M.length k (by unfold errDbIx at hix; omega)
  simp only [decide_eq_false_iff_not, Decidable.not_not] at hm
  rw [mE] at hm
  split at hm
  · omega
  · have hle := firstIx_le (fun i => decide (errAt (mAt M k).sigs (mAt M k).sz i ≠ 0)) (mAt M k).sigs.length
    by_cases h2 : errIx (mAt M k).sigs (mAt M k).sz < (mAt M k).sigs.length
    · have := firstIx_yes (fun i => decide (errAt (mAt M k).sigs (mAt M k).sz i ≠ 0)) _ h2
      rw [(errSigs_is rfl h2).1] at hm
      simp only [decide_eq_true_eq] at this
      exact absurd hm this
    · have := firstIx_no (fun i => decide (errAt (mAt M k).sigs (mAt M k).sz i ≠ 0)) (mAt M k).sigs.length j (by unfold errIx at h2; omega)
      simpa using this

theorem sound_fits {s : ByteArray} {M : List Mg} (hz : chkE s = 0) (h : pDb s 4 0 = .inr M) {k : Nat} (hk : k < M.length) : AllFits (mAt M k).sigs := fun _ hj =>
  errOf_fits (good_of h hk).1.sz1 (sound_at hz h hk hj)

def choiceOf (L : List Sg) (Z : List Int) : Int := if 0 ≤ muxOf L then zAt Z (muxOf L).toNat else 0
theorem mux_range (L : List Sg) : muxOf L = -1 ∨ ∃ k : Nat, k < L.length ∧ muxOf L = k ∧ (sgAt L k).rl = 77 := by
  rcases findIx_cases (fun k => decide ((sgAt L k).rl = 77)) L.length with ⟨h, _⟩ | ⟨k, hk, h, h2⟩
  · exact .inl h
  · exact .inr ⟨k, hk, h, by simpa using h2⟩

def noBytes : ByteArray := { data := #[] }
/-- P4, of a message. -/
def pkMsg (m : Mg) (Z : List Int) : ByteArray × Int × Int :=
  if Z.length ≠ m.sigs.length then (noBytes, 8, 0)
  else if 0 ≤ firstUn m.sigs Z (choiceOf m.sigs Z) then (noBytes, 9, firstUn m.sigs Z (choiceOf m.sigs Z))
  else (payB (bitsTo m.sigs Z (choiceOf m.sigs Z) m.sigs.length) m.sz.toNat, 0, 0)
/-- P4. -/
def pk (s id : ByteArray) (Z : List Int) : ByteArray × Int × Int :=
  if chkE s ≠ 0 then (noBytes, chkE s, chkP s) else
  match pDb s 4 0 with
  | .inl _ => (noBytes, 0, 0)
  | .inr M => if msgIx M id < 0 then (noBytes, 7, 0) else pkMsg (mAt M (msgIx M id).toNat) Z

theorem pk_bad {s id : ByteArray} {Z : List Int} (h : chkE s ≠ 0) : pk s id Z = (noBytes, chkE s, chkP s) := by rw [pk, if_pos h]
theorem pk_id {s id : ByteArray} {Z : List Int} {M : List Mg} (h : chkE s = 0) (hp : pDb s 4 0 = .inr M) (hi : msgIx M id = -1) : pk s id Z = (noBytes, 7, 0) := by
  rw [pk, if_neg (by omega), hp]; simp only; rw [if_pos (by omega)]
theorem pk_msg {s id : ByteArray} {Z : List Int} {M : List Mg} {k : Nat} (h : chkE s = 0) (hp : pDb s 4 0 = .inr M) (hi : msgIx M id = k) : pk s id Z = pkMsg (mAt M k) Z := by
  rw [pk, if_neg (by omega), hp]; simp only; rw [if_neg (by omega), hi, Int.toNat_natCast]

end Go.Proofs.Ytoihlnjcgopdlab

namespace Go.Proofs.Ytoihlnjcgopdlab
open Go.RowKit

theorem idBad_no {s : ByteArray} (h : idBad s = false) : ∀ k : Nat, k < 3 → headB k (bt s k) = true := fun k hk => by
  cases hh : headB k (bt s k) with
  | true => rfl
  | false =>
    have h1 : anyIx (fun k => !headB k (bt s k)) 3 = true := anyIx_true.2 ⟨k, hk, by simp [hh]⟩
    rw [idBad, h1] at h; cases h
theorem idNum_lt (s : ByteArray) : idNum s < 2048 := by
  rw [idNum]
  split
  · split
    · omega
    · rename_i h
      have hb := idBad_no (s := s) (by simpa using h)
      have h0 := hb 0 (by omega)
      have h1 := hb 1 (by omega)
      have h2 := hb 2 (by omega)
      simp [headB, isHexB, isDigB] at h0 h1 h2
      simp only [idTo, worth]
      split <;> split <;> split <;> omega
  · omega

theorem sumL_str {l : List Int} (h : Byts l) : sumF (bt (strOfNums l)) (strOfNums l).size = sumL l := by
  rw [sumL, strOfNums_size]
  congr 1
  funext k
  exact bt_str h k

set_option maxRecDepth 100000 in
set_option maxHeartbeats 1000000 in
theorem plainBits_any (x : Nat) (p : ByteArray) (w : World) (hx : x < 2048) (hp : p.size ≤ 8) :
    Calls Try.prog 60 #[.int .i64 x, .string p] w fun e w' => e = .returned (.string (strOfNums (plainL x (bl p)))) ∧ Below w.heap.size w w' := by
  have HPL := hide (show plainL x (bl p) = headL x p.size ++ payL ((bl p).take p.size) by rw [plainL, bl_len, bl_take_all])
  rw [unhide HPL]
  clear HPL
  have hz1 := strOfNums_size (numP x 11 11)
  rw [numP_len] at hz1
  have hz2 := strOfNums_size (numP p.size 4 4)
  rw [numP_len] at hz2
  have HH := hide (show (⟨#[48]⟩ : ByteArray) ++ strOfNums (numP x 11 11) ++ ⟨#[48, 48, 48]⟩ ++ strOfNums (numP p.size 4 4) = strOfNums (headL x p.size ++ payL ((bl p).take 0)) by
    rw [headL, List.take_zero, payL, List.flatMap_nil, List.append_nil, str_app, str_app, str_app]; rfl)
  go_enter Try.func60, Try.ntmps60
  go_wp2_with fail
  refine (numberText_any x 11 _ (by omega) (by omega)).mono ?_
  rintro e w1 ⟨rfl, hb1⟩
  have HB1 := hide hb1
  clear hb1
  go_wp2_with fail
  refine (numberText_any p.size 4 _ (by omega) (by omega)).mono ?_
  rintro e w2 ⟨rfl, hb2⟩
  have HB2 := hide ((unhide HB1).trans (hb2.mono (unhide HB1).size))
  clear hb2
  go_wp2
  go_loopw [5, 6] (fun v i wr => ∃ k : Nat, k ≤ p.size ∧ i = .int .i64 k ∧ v = .string (strOfNums (headL x p.size ++ payL ((bl p).take k))) ∧ Below w.heap.size w wr) (fun _ i _ => p.size - (intOf i).toNat)
  case atStart => exact ⟨0, by omega, rfl, by rw [← unhide HH], unhide HB2⟩
  case round =>
    obtain ⟨k, hk, rfl, rfl, hb⟩ := hrel
    have HB := hide hb
    clear hb
    have hsz : (strOfNums (headL x p.size ++ payL ((bl p).take k))).size ≤ 200 := by
      rw [strOfNums_size, List.length_append, headL_len, payL_len, List.length_take, bl_len]; omega
    by_cases hlt : k < p.size
    · have HE := hide (bt_of hlt)
      have hc1 : p[k].toNat ≤ 255 := by have := p[k].toNat_lt; omega
      have HN := hide (show strOfNums (headL x p.size ++ payL ((bl p).take (k + 1))) = strOfNums (headL x p.size ++ payL ((bl p).take k)) ++ strOfNums (numP p[k].toNat 8 8) by
        rw [bl_take hlt, payL_push, ← List.append_assoc, str_app, ← unhide HE, Int.toNat_natCast])
      have hz3 := strOfNums_size (numP p[k].toNat 8 8)
      rw [numP_len] at hz3
      go_wp2_with fail
      refine (numberText_any p[k].toNat 8 _ (by omega) (by omega)).mono ?_
      rintro e w3 ⟨rfl, hb3⟩
      have HB3 := hide ((unhide HB).trans (hb3.mono (unhide HB).size))
      clear hb3
      go_wp2
      go_roundw
      case rel => exact ⟨k + 1, by omega, by go_num, by rw [unhide HN], unhide HB3⟩
      case measure => simp [intOf]; omega
    · have hkk : k = p.size := by omega
      have HK := hide hkk
      clear hkk
      go_wp2
      go_ret
      exact ⟨by rw [← unhide HK]; try rfl, unhide HB⟩

set_option maxRecDepth 100000 in
set_option maxHeartbeats 1000000 in
theorem frameText_any (x : Nat) (p : ByteArray) (w : World) (hx : x < 2048) (hp : p.size ≤ 8) :
    Calls Try.prog 31 #[.int .i64 x, .string p] w fun e w' => e = .returned (.string (strOfNums (frmL x (bl p)))) ∧ Below w.heap.size w w' := by
  have hbl := bl_len p
  have hpl := plainL_len x (bl p)
  have hby := bits_byts (plainL_bits x (bl p))
  have hby2 := bits_byts (wholeL_bits x (bl p))
  have HS := hide (sumL_str hby)
  have hsl := sumF_lt (bt (strOfNums (plainL x (bl p)))) (strOfNums (plainL x (bl p))).size
  have hz0 : (strOfNums (plainL x (bl p))).size ≤ 100 := by rw [strOfNums_size]; omega
  rw [unhide HS] at hsl
  have HW := hide (show strOfNums (plainL x (bl p)) ++ strOfNums (numP (sumL (plainL x (bl p))) 15 15) = strOfNums (wholeL x (bl p)) by rw [wholeL, str_app])
  have hzw : (strOfNums (wholeL x (bl p))).size ≤ 100 := by rw [strOfNums_size, wholeL_len]; omega
  have hz1 := strOfNums_size (numP (sumL (plainL x (bl p))) 15 15)
  rw [numP_len] at hz1
  have HBW := hide (bl_str hby2)
  have hzs : (strOfNums (stuffL 0 0 (wholeL x (bl p)))).size ≤ 200 := by
    rw [strOfNums_size]
    have := stuff_up (wholeL x (bl p)) 0 0
    rw [wholeL_len] at this; omega
  have HF := hide (show strOfNums (stuffL 0 0 (wholeL x (bl p))) ++ ⟨#[49, 49, 49, 49, 49, 49, 49, 49, 49, 49]⟩ = strOfNums (frmL x (bl p)) by rw [frmL, str_app]; rfl)
  clear hbl hpl hby hby2
  go_enter Try.func31, Try.ntmps31
  go_wp2_with fail
  refine (plainBits_any x p _ hx hp).mono ?_
  rintro e w1 ⟨rfl, hb1⟩
  have HB1 := hide hb1
  clear hb1
  go_wp2_with fail
  refine (bitsSum_any _ _ (by omega)).mono ?_
  rintro e w2 ⟨rfl, rfl⟩
  rw [unhide HS]
  go_wp2_with fail
  refine (numberText_any _ 15 _ (by omega) (by omega)).mono ?_
  rintro e w3 ⟨rfl, hb3⟩
  have HB3 := hide ((unhide HB1).trans (hb3.mono (unhide HB1).size))
  clear hb3
  go_wp2_with fail
  rw [unhide HW]
  refine (stuffed_any _ _ (by omega)).mono ?_
  rintro e w4 ⟨rfl, hb4⟩
  rw [unhide HBW]
  have HB4 := hide ((unhide HB3).trans (hb4.mono (unhide HB3).size))
  clear hb4
  go_wp2
  go_ret
  exact ⟨by rw [← unhide HF]; rfl, unhide HB4⟩

/-- P12. -/
def frmOut (id p : ByteArray) : ByteArray × Int :=
  if 8 < p.size then (noBytes, 1) else if idNum id < 0 then (noBytes, 7) else (strOfNums (frmL (idNum id).toNat (bl p)), 0)

set_option maxRecDepth 100000 in
set_option maxHeartbeats 1000000 in
theorem Frame_any (id p : ByteArray) (w : World) (hid : id.size ≤ maxLen) :
    Calls Try.prog 11 #[.string id, .string p] w fun e w' => e = .returned (.tuple #[.string (frmOut id p).1, .int .i64 (frmOut id p).2]) ∧ Below w.heap.size w w' := by
  by_cases h8 : 8 < p.size
  · have HF := hide (show frmOut id p = (noBytes, 1) by rw [frmOut, if_pos h8])
    go_enter Try.func11, Try.ntmps11
    go_wp2
    go_ret2
    exact ⟨by rw [unhide HF]; rfl, Below.refl _ _⟩
  have hlt := idNum_lt id
  by_cases hn : idNum id < 0
  · have HF := hide (show frmOut id p = (noBytes, 7) by rw [frmOut, if_neg h8, if_pos hn])
    go_enter Try.func11, Try.ntmps11
    go_wp2_with fail
    refine (idNumber_any id _ hid).mono ?_
    rintro e w1 ⟨rfl, rfl⟩
    go_wp2
    go_ret2
    exact ⟨by rw [unhide HF]; rfl, Below.refl _ _⟩
  · obtain ⟨x, hx⟩ : ∃ x : Nat, idNum id = x := ⟨(idNum id).toNat, by omega⟩
    have HF := hide (show frmOut id p = (strOfNums (frmL x (bl p)), 0) by rw [frmOut, if_neg h8, if_neg hn, hx, Int.toNat_natCast])
    have HX := hide hx
    rw [hx] at hlt
    clear hn hx
    go_enter Try.func11, Try.ntmps11
    go_wp2_with fail
    refine (idNumber_any id _ hid).mono ?_
    rintro e w1 ⟨rfl, rfl⟩
    rw [unhide HX]
    go_wp2_with fail
    refine (frameText_any x p _ (by omega) (by omega)).mono ?_
    rintro e w2 ⟨rfl, hb2⟩
    go_wp2
    go_ret2
    exact ⟨by rw [unhide HF]; rfl, hb2⟩

end Go.Proofs.Ytoihlnjcgopdlab
