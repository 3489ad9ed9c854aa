import Derived.Test.YtoihlnjcgopdlaaJ1
import Derived.Laws.BytesArg
import Derived.Laws.Bits64b
namespace Go.Proofs.Ytoihlnjcgopdlaa
open Go.RowKit

theorem rdSignal_at (s : ByteArray) (i : Nat) (w : World) (h : ¬ nSig s i < 9) :
    Calls Try.prog 101 #[.string (s.extract i (i + 9))] w fun e w' =>
      e = .returned (.agg #[.int .i64 0, .int .u8 (mkSig s i).nm, .int .i64 (mkSig s i).st, .int .i64 (mkSig s i).ln, .int .u8 (mkSig s i).od, .int .u8 (mkSig s i).kd, .int .u8 (mkSig s i).rl]) ∧ Below w.heap.size w w' := by
  have h8 := (nSig_full h 8 (by omega)).1
  refine (readSignal_any (s.extract i (i + 9)) w (by rw [ByteArray.size_extract]; omega)).mono ?_
  rintro e w' ⟨rfl, hb⟩
  refine ⟨?_, hb⟩
  rw [bt_extract s i 9 1 (by omega) (by omega), bt_extract s i 9 2 (by omega) (by omega), bt_extract s i 9 3 (by omega) (by omega), bt_extract s i 9 4 (by omega) (by omega), bt_extract s i 9 5 (by omega) (by omega), bt_extract s i 9 6 (by omega) (by omega), bt_extract s i 9 7 (by omega) (by omega), bt_extract s i 9 8 (by omega) (by omega)]
  rfl

theorem blk_cell {w : World} {b t : Nat} {cur : Array Value} (h : w.heap[b]? = some (.cells cur t (0, 0))) (j : Nat) : w.cell? ⟨b, j, none⟩ = cur[j]? := cell_of_row w b j cur t (0, 0) h
theorem blk_free {w : World} {b t : Nat} {cur : Array Value} (h : w.heap[b]? = some (.cells cur t (0, 0))) (j : Nat) : w.frozen? ⟨b, j, none⟩ = false := by simp [World.frozen?, h]
theorem blk_lt {w : World} {b : Nat} {o : Obj} (h : w.heap[b]? = some o) : b < w.heap.size := (Array.getElem?_eq_some_iff.1 h).1
theorem blk_below {w w' : World} {b : Nat} {o : Obj} (h : w.heap[b]? = some o) (hb : Below w.heap.size w w') : w'.heap[b]? = some o := by rw [hb.block b (blk_lt h)]; exact h
theorem blk_alloc {w : World} {b : Nat} {o o' : Obj} (h : w.heap[b]? = some o) : (w.alloc o').heap[b]? = some o := by rw [Below.heap_alloc _ _ _ (blk_lt h)]; exact h
theorem blk_new (w : World) (o : Obj) : (w.alloc o).heap[w.heap.size]? = some o := heap_alloc_new w o
theorem blk_grown {w w' : World} {b : Nat} {o : Obj} {row : Option Nat} (h : w.heap[b]? = some o) (hg : w.grownBy w' row) (hr : some b ≠ row) : w'.heap[b]? = some o := by rw [hg.block b (blk_lt h) hr]; exact h
theorem ownsRow_base {w : World} {B e s : Nat} {v : Value} {n : Nat} {xs : List Value} (h : w.ownsRow B e s v n xs) : w.ownsRow 0 e s v n xs := by
  refine ⟨h.1, ?_⟩
  rcases h.2 with hn | ⟨g, cap, cur, hv, _, r⟩
  · exact .inl hn
  · exact .inr ⟨g, cap, cur, hv, Nat.zero_le _, r⟩
theorem ownsRow_bel {w w' : World} {B e s : Nat} {v : Value} {n : Nat} {xs : List Value} (h : w.ownsRow B e s v n xs) (hb : Below w.heap.size w w') : w'.ownsRow B e s v n xs := by
  refine ⟨h.1, ?_⟩
  rcases h.2 with hn | ⟨g, cap, cur, rfl, h0, hg, r⟩
  · exact .inl hn
  · exact .inr ⟨g, cap, cur, rfl, h0, by rw [hb.block g (Array.getElem?_eq_some_iff.1 hg).1]; exact hg, r⟩

theorem Try.infoSig : (Try.prog.info? 121).map (fun i => (i.zero, i.size, i.bytes)) = some (some (.agg #[.int .i64 0, .int .u8 0, .int .i64 0, .int .i64 0, .int .u8 0, .int .u8 0, .int .u8 0]), 7, 40) := by kernel_rfl

theorem ownsRow_form {w : World} {B e s : Nat} {v : Value} {n : Nat} {xs : List Value} (h : w.ownsRow B e s v n xs) : ∃ a cap, v = .slice a n cap := by
  rcases h.2 with ⟨rfl, rfl⟩ | ⟨g, cap, cur, rfl, _⟩
  · exact ⟨_, _, rfl⟩
  · exact ⟨_, _, rfl⟩

theorem new_cells {w : World} {b t : Nat} {l : List Value} (h : w.heap[b]? = some (.cells l.toArray t (0, 0))) : ∀ j u, l[j]? = some u → w.cell? ((⟨b, 0, none⟩ : Addr).add j) = some u := by
  intro j u hj
  have : (⟨b, 0, none⟩ : Addr).add j = ⟨b, j, none⟩ := by unfold Addr.add; split <;> simp_all
  rw [this, blk_cell h]
  simpa using hj

theorem new_two (w : World) (o1 o : Obj) : ((w.alloc o1).alloc o).heap[w.heap.size + 1]? = some o := by
  have := blk_new (w.alloc o1) o
  rw [World.size_alloc] at this
  exact this
theorem blk_set {w : World} {b t : Nat} {cur : Array Value} (h : w.heap[b]? = some (.cells cur t (0, 0))) (j : Nat) (u : Value) : (w.setCell ⟨b, j, none⟩ u).heap[b]? = some (.cells (cur.setIfInBounds j u) t (0, 0)) := by
  have hlt := lt_of_block h
  have h' : w.heap[b] = .cells cur t (0, 0) := by simpa [Array.getElem?_eq_getElem hlt] using h
  show (w.heap.modify b _)[b]? = _
  rw [Array.getElem?_eq_getElem (by simpa using hlt), Array.getElem_modify_self, h']
  rfl
theorem blk_set_other {w : World} {b c j : Nat} {o : Obj} (u : Value) (h : w.heap[b]? = some o) (hne : b ≠ c) : (w.setCell ⟨c, j, none⟩ u).heap[b]? = some o := by
  rw [Below.heap_setCell _ _ _ _ hne]; exact h

/-- What a reading of the message at i answers: the place where it cannot go on, or the message. -/
def MsgOut (s : ByteArray) (i : Nat) (e : Ending) (w' : World) : Prop :=
  match pMsg s i with
  | .inl p => e = .returned (.tuple #[.agg #[.int .i64 0, .int .i64 0, .int .i64 0, .slice none 0 0], .bool false, .int .i64 p])
  | .inr (m, q) => ∃ sv, e = .returned (.tuple #[.agg #[.int .i64 m.pl, .int .i64 (idNum m.id), .int .i64 m.sz, sv], .bool true, .int .i64 q]) ∧ SigsAt w' sv m.sigs

theorem MsgOut_bad {s : ByteArray} {i p : Nat} {w' : World} {q : Int} (h : pMsg s i = .inl p) (hq : q = p) : MsgOut s i (.returned (.tuple #[.agg #[.int .i64 0, .int .i64 0, .int .i64 0, .slice none 0 0], .bool false, .int .i64 q])) w' := by
  unfold MsgOut; rw [h, hq]
theorem MsgOut_good {s : ByteArray} {i q : Nat} {l : List Sg} {w' : World} {sv : Value} {idn sz : Int} (h : pMsg s i = .inr (mkMsg s i l, q)) (hid : idn = idNum (s.extract i (i + 3))) (hsz : sz = bt s (i + 3) - 48) (hs : SigsAt w' sv l) :
    MsgOut s i (.returned (.tuple #[.agg #[.int .i64 i, .int .i64 idn, .int .i64 sz, sv], .bool true, .int .i64 q])) w' := by
  unfold MsgOut; rw [h, hid, hsz]; exact ⟨sv, rfl, hs⟩
theorem pMsg_sigs {s : ByteArray} {i : Nat} (hn : ¬ nHead s i < 4) : pMsg s i = match pSigs s 8 (i + 4) with | .inl p => .inl p | .inr (l, e) => .inr (mkMsg s i l, e) := by
  rw [pMsg, if_neg hn]
  rcases pSigs s 8 (i + 4) with p | ⟨l, e⟩ <;> rfl

theorem set4_owns {wr : World} {B e s : Nat} {v : Value} {n : Nat} {xs : List Value} (h : wr.ownsRow (B + 2) e s v n xs) (u0 u1 u2 u3 : Value) :
    ((((wr.setCell ⟨B, 0, none⟩ u0).setCell ⟨B, 1, none⟩ u1).setCell ⟨B, 2, none⟩ u2).setCell ⟨B, 3, none⟩ u3).ownsRow 0 e s v n xs :=
  ownsRow_base (ownsRow_setCell_below (ownsRow_setCell_below (ownsRow_setCell_below (ownsRow_setCell_below h (a := ⟨B, 0, none⟩) (by simp) u0) (a := ⟨B, 1, none⟩) (by simp) u1) (a := ⟨B, 2, none⟩) (by simp) u2) (a := ⟨B, 3, none⟩) (by simp) u3)
theorem set4_below {w wr : World} (h : Below w.heap.size w wr) (u0 u1 u2 u3 : Value) :
    Below w.heap.size w ((((wr.setCell ⟨w.heap.size, 0, none⟩ u0).setCell ⟨w.heap.size, 1, none⟩ u1).setCell ⟨w.heap.size, 2, none⟩ u2).setCell ⟨w.heap.size, 3, none⟩ u3) :=
  (((h.setCell (p := ⟨w.heap.size, 0, none⟩) (Nat.le_refl _) u0).setCell (p := ⟨w.heap.size, 1, none⟩) (Nat.le_refl _) u1).setCell (p := ⟨w.heap.size, 2, none⟩) (Nat.le_refl _) u2).setCell (p := ⟨w.heap.size, 3, none⟩) (Nat.le_refl _) u3

set_option maxRecDepth 100000 in
set_option maxHeartbeats 2000000 in
theorem readMessage_yes (s : ByteArray) (i : Nat) (w : World) (hs : s.size ≤ 320) (hn : ¬ nHead s i < 4) :
    Calls Try.prog 89 #[.string s, .int .i64 i] w fun e w' => MsgOut s i e w' ∧ Below w.heap.size w w' := by
  obtain ⟨i0, hinf, hz0, hz1, hz2⟩ := info_parts Try.infoSig
  have hall := nHead_full hn
  have h3 := (hall 3 (by omega)).1
  obtain ⟨n4, HN4⟩ : ∃ n, Hid (n = nHead s i) := ⟨_, hide rfl⟩
  have hn' : decide ((n4 : Int) < 4) = false := by rw [← unhide HN4] at hn; simp; omega
  have hlo := bt_lo s (i + 3)
  have hhi := bt_hi s (i + 3)
  rw [← bt_of h3] at hlo hhi
  obtain ⟨sz, HSZ⟩ : ∃ z : Int, Hid (z = worth (s[i + 3].toNat : Int)) := ⟨_, hide rfl⟩
  obtain ⟨idn, HID⟩ : ∃ z : Int, Hid (z = idNum (s.extract i (i + 3))) := ⟨_, hide rfl⟩
  have HN := hide hn
  have HALL := hide hall
  have HINF := hide hinf
  have HZ0 := hide hz0
  have HZ1 := hide hz1
  have HZ2 := hide hz2
  clear hn hall hinf hz0 hz1 hz2
  go_enter Try.func89, Try.ntmps89
  go_wp2_with fail
  refine (rightHead_any s i _ hs (by omega)).mono ?_
  rintro e w1 ⟨rfl, rfl⟩
  rw [← unhide HN4]
  go_wp2_with fail
  refine (idNumber_any _ _ (by rw [ByteArray.size_extract]; unfold maxLen; omega)).mono ?_
  rintro e w1 ⟨rfl, rfl⟩
  rw [← unhide HID]
  go_wp2_with fail
  refine (digitWorth_any _ _ hlo hhi).mono ?_
  rintro e w1 ⟨rfl, rfl⟩
  rw [← unhide HSZ]
  go_wp2
  clear hn' hlo hhi
  go_loopw [1, 7, 10] (fun a _ _ wr => ∃ (p : Nat) (acc : List Sg) (sv : Value), a = .int .i64 p ∧ p ≤ s.size ∧ acc.length ≤ 8 ∧ wr.heap[w.heap.size]? = some (.cells #[.int .i64 0, .int .i64 0, .int .i64 0, .slice none 0 0] 74 (0, 0)) ∧
      wr.heap[w.heap.size + 1]? = some (.cells #[.int .i64 i, .int .i64 idn, .int .i64 sz, sv] 74 (0, 0)) ∧ wr.ownsRow (w.heap.size + 2) 121 7 sv acc.length (acc.flatMap Sg.cells) ∧
      Below w.heap.size w wr ∧ glue acc (pSigs s (8 - acc.length) p) = pSigs s 8 (i + 4)) (fun a _ _ _ => s.size + 10 - (intOf a).toNat)
  case atStart => exact ⟨i + 4, [], .slice none 0 0, by simp, by omega, by simp, blk_alloc (blk_new _ _), new_two _ _ _, World.ownsRow_nil _ _ _ _, ((Below.refl _ _).alloc (Nat.le_refl _) _).alloc (by simp) _, glue_nil _⟩
  case round =>
    obtain ⟨p, acc, sv, rfl, hp, hacc, hB0, hB1, hown, hbel, hgl⟩ := hrel
    obtain ⟨sa, cap, rfl⟩ := ownsRow_form hown
    have HB0 := hide hB0
    have HB1 := hide hB1
    have HOWN := hide hown
    have HBEL := hide hbel
    have HGL := hide hgl
    clear hB0 hB1 hown hbel hgl
    have hc3 : wr.cell? ⟨w.heap.size + 1, 3, none⟩ = some (.slice sa acc.length cap) := blk_cell (unhide HB1) 3
    by_cases hgo : acc.length < 8 ∧ p < s.size ∧ bt s p = 44
    · obtain ⟨ha8, hps, h44⟩ := hgo
      have e44 : ((s[p].toNat : Int) == 44) = true := by rw [bt_of hps, h44]; rfl
      have H44 := hide h44
      clear h44
      by_cases hns : nSig s p < 9
      · obtain ⟨n9, HN9⟩ : ∃ n, Hid (n = nSig s p) := ⟨_, hide rfl⟩
        have hns' : (n9 : Int) < 9 := by rw [← unhide HN9] at hns; omega
        have HFIN := hide (show pMsg s i = .inl (p + n9) by rw [pMsg_sigs (unhide HN), ← unhide HGL, glue_bad (by omega) ⟨hps, unhide H44⟩ hns, unhide HN9])
        clear hns
        have f0 : wr.frozen? ⟨w.heap.size, 0, none⟩ = false := blk_free (unhide HB0) 0
        have f1 : wr.frozen? ⟨w.heap.size, 1, none⟩ = false := blk_free (unhide HB0) 1
        have f2 : wr.frozen? ⟨w.heap.size, 2, none⟩ = false := blk_free (unhide HB0) 2
        have f3 : wr.frozen? ⟨w.heap.size, 3, none⟩ = false := blk_free (unhide HB0) 3
        have b0 : wr.cell? ⟨w.heap.size, 0, none⟩ = some (.int .i64 0) := blk_cell (unhide HB0) 0
        have b1 : wr.cell? ⟨w.heap.size, 1, none⟩ = some (.int .i64 0) := blk_cell (unhide HB0) 1
        have b2 : wr.cell? ⟨w.heap.size, 2, none⟩ = some (.int .i64 0) := blk_cell (unhide HB0) 2
        have b3 : wr.cell? ⟨w.heap.size, 3, none⟩ = some (.slice none 0 0) := blk_cell (unhide HB0) 3
        go_wp2_with fail
        refine (rightSig_any s p _ hs (by omega)).mono ?_
        rintro e w1 ⟨rfl, rfl⟩
        rw [← unhide HN9]
        go_wp2
        exact bodyPost_ret (v := .tuple #[.agg #[.int .i64 0, .int .i64 0, .int .i64 0, .slice none 0 0], .bool false, .int .i64 (p + n9)]) (by simp [results, Try.results89, go_sem, b0, b1, b2, b3]) rfl ⟨MsgOut_bad (unhide HFIN) (by simp), set4_below (unhide HBEL) _ _ _ _⟩
      · have HNS := hide hns
        have h8 := (nSig_full hns 8 (by omega)).1
        obtain ⟨n9, HN9⟩ : ∃ n, Hid (n = nSig s p) := ⟨_, hide rfl⟩
        have hns' : decide ((n9 : Int) < 9) = false := by rw [← unhide HN9] at hns; simp; omega
        clear hns
        go_wp2_with fail
        refine (rightSig_any s p _ hs (by omega)).mono ?_
        rintro e w1 ⟨rfl, rfl⟩
        rw [← unhide HN9]
        go_wp2_with fail
        refine (rdSignal_at s p _ (unhide HNS)).mono ?_
        rintro e w2 ⟨rfl, hb2⟩
        have HB0' := hide (blk_below (unhide HB0) hb2)
        have HB1' := hide (blk_below (unhide HB1) hb2)
        have HOWN' := hide (ownsRow_bel (unhide HOWN) hb2)
        have HBEL' := hide ((unhide HBEL).trans (hb2.mono (unhide HBEL).size))
        clear hc3 hb2
        have hc3 : w2.cell? ⟨w.heap.size + 1, 3, none⟩ = some (.slice sa acc.length cap) := blk_cell (unhide HB1') 3
        have hlt1 : w.heap.size + 1 < w2.heap.size := blk_lt (unhide HB1')
        have hf3 : w2.frozen? ⟨w.heap.size + 1, 3, none⟩ = false := blk_free (unhide HB1') 3
        go_wp2_with (at_builtin; refine wpList_append_own _ rfl _ _ 72 rfl (w.heap.size + 2) 121 i0 _ 7 40 Try.underlying72 (unhide HINF) (unhide HZ0) (unhide HZ1) (unhide HZ2) rfl (by decide) _ _ _ rfl (((unhide HOWN').alloc _).alloc _) ⟨w2.heap.size + 1, 0, none⟩ 1 1 (mkSig s p).cells rfl rfl ?c1 ?c2 ?c3 ?c4 ?c5 ?_)
        case c1 => exact new_cells (new_two _ _ _)
        case c2 => simp [Sg.cells, Value.oneCell']
        case c3 => unfold maxLen; omega
        case c4 => omega
        case c5 => simp; omega
        intro v3 w3 hown3 hgrow _
        obtain ⟨a3, cap3, rfl⟩ := ownsRow_form hown3
        have hne : ∀ b, b < w.heap.size + 2 → some b ≠ (Value.slice sa acc.length cap).ownBlock := by
          intro b hb e
          have := (unhide HOWN').lt b e.symm
          omega
        have HB0'' := hide (blk_grown (blk_alloc (blk_alloc (unhide HB0'))) hgrow (hne _ (by omega)))
        have HB1'' := hide (blk_grown (blk_alloc (blk_alloc (unhide HB1'))) hgrow (hne _ (by omega)))
        have HBEL'' := hide (Below.grown (((unhide HBEL').alloc (by have := (unhide HBEL').size; omega) _).alloc (by have := (unhide HBEL').size; simp; omega) _) hgrow (by have := (unhide HBEL').size; simp; omega) (fun k hk => by have := (unhide HOWN').lt k hk; omega))
        have HOWN3 := hide hown3
        clear hown3 hgrow hne hc3 hf3 hlt1
        have hc3 : w3.cell? ⟨w.heap.size + 1, 3, none⟩ = some (.slice sa acc.length cap) := blk_cell (unhide HB1'') 3
        have hf3 : w3.frozen? ⟨w.heap.size + 1, 3, none⟩ = false := blk_free (unhide HB1'') 3
        go_wp2
        go_roundw
        case rel =>
          refine ⟨p + 9, acc ++ [mkSig s p], .slice a3 (acc.length + 1) cap3, by go_num, by omega, by simp; omega, blk_set_other _ (unhide HB0'') (by omega), blk_set (unhide HB1'') 3 _, ?_, (unhide HBEL'').setCell (by simp) _, ?_⟩
          · have := ownsRow_setCell_below (unhide HOWN3) (a := ⟨w.heap.size + 1, 3, none⟩) (by simp) (.slice a3 (acc.length + 1) cap3)
            simpa [List.flatMap_append] using this
          · rw [← unhide HGL, glue_step (by omega) ⟨hps, unhide H44⟩ (unhide HNS), List.length_append]
            congr 2
        case measure => simp [intOf]; omega
    · have hend : glue acc (pSigs s (8 - acc.length) p) = .inr (acc, p) := glue_stop (by
        by_cases h1 : acc.length < 8
        · exact .inr (fun h => hgo ⟨h1, h⟩)
        · exact .inl (by omega))
      have hfin : pMsg s i = .inr (mkMsg s i acc, p) := by rw [pMsg_sigs (unhide HN), ← unhide HGL, hend]
      have HFIN := hide hfin
      clear hend hfin
      have hz : sz = bt s (i + 3) - 48 := by
        have := (unhide HALL 3 (by omega)).2
        simp [headB] at this
        rw [unhide HSZ, bt_of h3]; exact dig_worth (by omega) (by omega)
      have HZ := hide hz
      clear hz
      have hways : (8 : Int) ≤ (acc.length : Int) ∨ ((acc.length : Int) < 8 ∧ (s.size : Int) ≤ (p : Int)) ∨ ((acc.length : Int) < 8 ∧ p < s.size ∧ bt s p ≠ 44) := by
        by_cases h1 : acc.length < 8
        · by_cases h2 : p < s.size
          · exact .inr (.inr ⟨by omega, h2, fun h => hgo ⟨h1, h2, h⟩⟩)
          · exact .inr (.inl ⟨by omega, by omega⟩)
        · exact .inl (by omega)
      clear hgo
      have d0 : wr.cell? ⟨w.heap.size + 1, 0, none⟩ = some (.int .i64 i) := blk_cell (unhide HB1) 0
      have d1 : wr.cell? ⟨w.heap.size + 1, 1, none⟩ = some (.int .i64 idn) := blk_cell (unhide HB1) 1
      have d2 : wr.cell? ⟨w.heap.size + 1, 2, none⟩ = some (.int .i64 sz) := blk_cell (unhide HB1) 2
      have f0 : wr.frozen? ⟨w.heap.size, 0, none⟩ = false := blk_free (unhide HB0) 0
      have f1 : wr.frozen? ⟨w.heap.size, 1, none⟩ = false := blk_free (unhide HB0) 1
      have f2 : wr.frozen? ⟨w.heap.size, 2, none⟩ = false := blk_free (unhide HB0) 2
      have f3 : wr.frozen? ⟨w.heap.size, 3, none⟩ = false := blk_free (unhide HB0) 3
      have b0 : wr.cell? ⟨w.heap.size, 0, none⟩ = some (.int .i64 0) := blk_cell (unhide HB0) 0
      have b1 : wr.cell? ⟨w.heap.size, 1, none⟩ = some (.int .i64 0) := blk_cell (unhide HB0) 1
      have b2 : wr.cell? ⟨w.heap.size, 2, none⟩ = some (.int .i64 0) := blk_cell (unhide HB0) 2
      have b3 : wr.cell? ⟨w.heap.size, 3, none⟩ = some (.slice none 0 0) := blk_cell (unhide HB0) 3
      rcases hways with hq | ⟨hq, hq2⟩ | ⟨hq, hq2, hq3⟩
      · go_wp2
        exact bodyPost_ret (v := .tuple #[.agg #[.int .i64 i, .int .i64 idn, .int .i64 sz, .slice sa acc.length cap], .bool true, .int .i64 p]) (by simp [results, Try.results89, go_sem, b0, b1, b2, b3]) rfl ⟨MsgOut_good (unhide HFIN) (unhide HID) (unhide HZ) (set4_owns (unhide HOWN) _ _ _ _), set4_below (unhide HBEL) _ _ _ _⟩
      · go_wp2
        exact bodyPost_ret (v := .tuple #[.agg #[.int .i64 i, .int .i64 idn, .int .i64 sz, .slice sa acc.length cap], .bool true, .int .i64 p]) (by simp [results, Try.results89, go_sem, b0, b1, b2, b3]) rfl ⟨MsgOut_good (unhide HFIN) (unhide HID) (unhide HZ) (set4_owns (unhide HOWN) _ _ _ _), set4_below (unhide HBEL) _ _ _ _⟩
      · have hq4 : ((s[p].toNat : Int) == 44) = false := by rw [bt_of hq2]; simpa using hq3
        clear hq3
        go_wp2
        exact bodyPost_ret (v := .tuple #[.agg #[.int .i64 i, .int .i64 idn, .int .i64 sz, .slice sa acc.length cap], .bool true, .int .i64 p]) (by simp [results, Try.results89, go_sem, b0, b1, b2, b3]) rfl ⟨MsgOut_good (unhide HFIN) (unhide HID) (unhide HZ) (set4_owns (unhide HOWN) _ _ _ _), set4_below (unhide HBEL) _ _ _ _⟩

set_option maxHeartbeats 400000 in
theorem readMessage_no (s : ByteArray) (i : Nat) (w : World) (hs : s.size ≤ 320) (hi : i ≤ s.size + 1) (hn : nHead s i < 4) :
    Calls Try.prog 89 #[.string s, .int .i64 i] w fun e w' => MsgOut s i e w' ∧ Below w.heap.size w w' := by
  obtain ⟨n4, HN4⟩ : ∃ n, Hid (n = nHead s i) := ⟨_, hide rfl⟩
  have hn' : (n4 : Int) < 4 := by rw [← unhide HN4] at hn; omega
  have HFIN := hide (show pMsg s i = .inl (i + n4) by rw [pMsg, if_pos hn, unhide HN4])
  clear hn
  go_enter Try.func89, Try.ntmps89
  go_wp2_with fail
  refine (rightHead_any s i _ hs (by omega)).mono ?_
  rintro e w1 ⟨rfl, rfl⟩
  rw [← unhide HN4]
  go_wp2
  exact bodyPost_ret (v := .tuple #[.agg #[.int .i64 0, .int .i64 0, .int .i64 0, .slice none 0 0], .bool false, .int .i64 (i + n4)]) (by simp [results, Try.results89, go_sem]) rfl ⟨MsgOut_bad (unhide HFIN) (by simp), (Below.refl _ _).alloc (Nat.le_refl _) _⟩

theorem readMessage_any (s : ByteArray) (i : Nat) (w : World) (hs : s.size ≤ 320) (hi : i ≤ s.size + 1) :
    Calls Try.prog 89 #[.string s, .int .i64 i] w fun e w' => MsgOut s i e w' ∧ Below w.heap.size w w' := by
  by_cases hn : nHead s i < 4
  · exact readMessage_no s i w hs hi hn
  · exact readMessage_yes s i w hs hn

end Go.Proofs.Ytoihlnjcgopdlaa

namespace Go.Proofs.Ytoihlnjcgopdlaa
open Go.RowKit

/-- Is a signal of this role active, if the multiplexor's value is c? -/
def activeB (rl c : Int) : Bool := !isDigB rl || decide (rl - 48 = c)

/-- Half of what n bits can hold. -/
def half (ln : Int) : Int := 2 ^ (ln.toNat - 1)
theorem half_pos (ln : Int) : 1 ≤ half ln := by
  have : (0 : Int) < 2 ^ (ln.toNat - 1) := Int.pow_pos (by omega)
  unfold half; omega
theorem half_le (ln : Int) (h : ln ≤ 32) : half ln ≤ 2147483648 := by
  unfold half
  have h1 : (2 : Nat) ^ (ln.toNat - 1) ≤ 2 ^ 31 := Nat.pow_le_pow_right (by omega) (by omega)
  have e : (2 : Nat) ^ 31 = 2147483648 := rfl
  rw [e] at h1
  have e2 : ((2 : Int) ^ (ln.toNat - 1)) = (((2 : Nat) ^ (ln.toNat - 1) : Nat) : Int) := by simp
  rw [e2]; omega
theorem pow_half (ln : Int) (h : 1 ≤ ln) : (2 : Int) ^ ln.toNat = 2 * half ln := by
  unfold half
  obtain ⟨n, hn⟩ : ∃ n, ln.toNat = n + 1 := ⟨ln.toNat - 1, by omega⟩
  rw [hn, Nat.add_sub_cancel, Int.pow_succ, Int.mul_comm]

/-- Can a signal of this kind and length hold v? -/
def fitsB (kd ln v : Int) : Bool := if kd = 115 then decide (-(half ln) ≤ v) && decide (v < half ln) else decide (0 ≤ v) && decide (v < 2 * half ln)


theorem pow_half2 (ln : Int) : (2 : Int) ^ (ln.toNat - 1) = half ln := rfl

/-- What is laid of a value, as the document's reader has it. -/
def natural (ln v : Int) : Int := if v < 0 then v + 2 * half ln else v

theorem fitsB_bounds {kd ln v : Int} (h : fitsB kd ln v = true) : -(half ln) ≤ v ∧ v < 2 * half ln := by
  have := half_pos ln
  unfold fitsB at h
  split at h
  · simp at h; omega
  · simp at h; omega

theorem div_shift (x q : Int) (k : Nat) : (x + 2 ^ (k + 1) * q) / 2 ^ k = x / 2 ^ k + 2 * q := by
  have hp : (2 : Int) ^ k ≠ 0 := Int.ne_of_gt (Int.pow_pos (by omega))
  rw [Int.pow_succ, Int.mul_assoc, Int.add_mul_ediv_left _ _ hp]

theorem natural_bit (ln v : Int) (k : Nat) (h0 : 1 ≤ ln) (h1 : ln ≤ 32) (hk : (k : Int) < ln) (hlo : -(half ln) ≤ v) (hhi : v < 2 * half ln) :
    0 ≤ natural ln v ∧ natural ln v < 2 * half ln ∧ natural ln v / 2 ^ k % 2 = (bitv v k : Int) := by
  have hp := half_pos ln
  have hu := half_le ln h1
  unfold natural bitv
  split
  · rename_i hv
    refine ⟨by omega, by omega, ?_⟩
    have e1 : v % 18446744073709551616 = v + 18446744073709551616 := by omega
    rw [e1]
    have hpw := pow_half ln h0
    obtain ⟨n, hn⟩ : ∃ n : Nat, ln.toNat = k + 1 + n := ⟨ln.toNat - (k + 1), by omega⟩
    have e2 : v + 18446744073709551616 = (v + 2 * half ln) + 2 ^ (k + 1) * (2 ^ (63 - k) - 2 ^ n) := by
      have a1 : (2 : Int) ^ (k + 1) * 2 ^ (63 - k) = 18446744073709551616 := by
        rw [← Int.pow_add, show k + 1 + (63 - k) = 64 by omega]; rfl
      have a2 : (2 : Int) ^ (k + 1) * 2 ^ n = 2 * half ln := by rw [← Int.pow_add, ← hn, hpw]
      rw [Int.mul_sub, a1, a2]; omega
    rw [e2, div_shift]
    omega
  · rename_i hv
    refine ⟨by omega, by omega, ?_⟩
    have e1 : v % 18446744073709551616 = v := by omega
    rw [e1]
    omega

/-- What X makes of a register. -/
def extV (v n : Int) : Int := if half n ≤ v % (2 * half n) then v % (2 * half n) - 2 * half n else v % (2 * half n)

theorem and_mask (v : Int) (n : Nat) (h : n ≤ 62) : bits BinOp.and IntKind.i64 v (2 ^ n - 1) = v % 2 ^ n := by
  have hpos : 0 < 2 ^ n := Nat.two_pow_pos n
  have hle : 2 ^ n ≤ 2 ^ 62 := Nat.pow_le_pow_right (by omega) h
  have e62 : (2 : Nat) ^ 62 = 4611686018427387904 := rfl
  have hc : ((2 : Int) ^ n - 1) = ((2 ^ n - 1 : Nat) : Int) := by rw [Int.natCast_sub hpos]; simp
  have hc2 : ((2 : Int) ^ n) = ((2 ^ n : Nat) : Int) := by simp
  show IntKind.i64.wrap ((BitVec.ofInt 64 v &&& BitVec.ofInt 64 (2 ^ n - 1)).toNat : Int) = _
  have h2 : (BitVec.ofInt 64 ((2 ^ n - 1 : Nat) : Int)).toNat = 2 ^ n - 1 := by
    rw [BitVec.ofInt_natCast, BitVec.toNat_ofNat]; exact Nat.mod_eq_of_lt (by omega)
  rw [hc, BitVec.toNat_and, h2, Nat.and_two_pow_sub_one_eq_mod, BitVec.toNat_ofInt, IntKind.wrap_i64, hc2]
  have e64 : ((2 ^ 64 : Nat) : Int) = 18446744073709551616 := rfl
  rw [e64]
  have hd : (((v % 18446744073709551616).toNat % 2 ^ n : Nat) : Int) = v % ((2 ^ n : Nat) : Int) := by
    rw [Int.natCast_emod, Int.toNat_of_nonneg (Int.emod_nonneg _ (by omega)), Int.emod_emod_of_dvd]
    refine ⟨((2 ^ (64 - n) : Nat) : Int), ?_⟩
    rw [← Int.natCast_mul, ← Nat.pow_add, show n + (64 - n) = 64 by omega]; rfl
  rw [hd]
  have h3 : 0 ≤ v % ((2 ^ n : Nat) : Int) := Int.emod_nonneg _ (by omega)
  have h4 : v % ((2 ^ n : Nat) : Int) < ((2 ^ n : Nat) : Int) := Int.emod_lt_of_pos _ (by omega)
  omega

/-- Byte j of a payload's number. -/
def byteOf (N j : Nat) : Nat := N / 2 ^ (8 * j) % 256
theorem byteOf_lt (N j : Nat) : byteOf N j < 256 := Nat.mod_lt _ (by omega)
theorem byteOf_bit (N j i : Nat) : (byteOf N j).testBit i = (decide (i < 8) && N.testBit (8 * j + i)) := by
  rw [byteOf, show (256 : Nat) = 2 ^ 8 from rfl, Nat.testBit_mod_two_pow, Nat.testBit_div_two_pow, Nat.add_comm]
theorem byteOf_put (N b : Nat) : byteOf (N ||| 2 ^ b) (b / 8) = byteOf N (b / 8) ||| 2 ^ (b % 8) := by
  apply Nat.eq_of_testBit_eq
  intro i
  rw [byteOf_bit, Nat.testBit_or, Nat.testBit_or, byteOf_bit, Nat.testBit_two_pow, Nat.testBit_two_pow]
  by_cases h : i < 8
  · by_cases e : b % 8 = i
    · have : b = 8 * (b / 8) + i := by omega
      simp [h, e, ← this]
    · have : ¬ b = 8 * (b / 8) + i := by omega
      simp [h, e, this]
  · have : ¬ b % 8 = i := by omega
    simp [h, this]
theorem byteOf_other (N b j : Nat) (h : j ≠ b / 8) : byteOf (N ||| 2 ^ b) j = byteOf N j := by
  apply Nat.eq_of_testBit_eq
  intro i
  rw [byteOf_bit, Nat.testBit_or, byteOf_bit, Nat.testBit_two_pow]
  by_cases hi : i < 8
  · have : ¬ b = 8 * j + i := by omega
    simp [this]
  · simp [hi]

/-- The payload of n bytes that a number is. -/
def bytesL (N n : Nat) : List Int := (List.range n).map (fun j => (byteOf N j : Int))
def payB (N n : Nat) : ByteArray := strOfNums (bytesL N n)
theorem bytesL_len (N n : Nat) : (bytesL N n).length = n := by simp [bytesL]
theorem bytesL_get (N n i : Nat) (h : i < n) : (bytesL N n).getD i 0 = (byteOf N i : Int) := by simp [bytesL, h]
theorem bytesL_succ (N n : Nat) : bytesL N (n + 1) = bytesL N n ++ [(byteOf N n : Int)] := by simp [bytesL, List.range_succ]

/-- The payload's number behind the first k signals. -/
def bitsTo (L : List Sg) (Z : List Int) (c : Int) : Nat → Nat
  | 0 => 0
  | k + 1 => if activeB (sgAt L k).rl c then bitsTo L Z c k ||| layTo (sgAt L k).st (sgAt L k).ln (sgAt L k).od (Z.getD k 0) (sgAt L k).ln.toNat else bitsTo L Z c k

end Go.Proofs.Ytoihlnjcgopdlaa

namespace Go.Proofs.Ytoihlnjcgopdlaa
open Go.RowKit

/-- An instruction. -/
structure Ins where
  op : Int
  r : Int
  b : Int
  k : Int
  n : Int

def insAt (s : ByteArray) (i : Nat) : Ins := ⟨bt s (5 * i), bt s (5 * i + 1), bt s (5 * i + 2), bt s (5 * i + 3), bt s (5 * i + 4)⟩

/-- Its numbers are bytes. -/
structure Ins.Byt (x : Ins) : Prop where
  op0 : 0 ≤ x.op
  op1 : x.op ≤ 255
  r0 : 0 ≤ x.r
  r1 : x.r ≤ 255
  b0 : 0 ≤ x.b
  b1 : x.b ≤ 255
  k0 : 0 ≤ x.k
  k1 : x.k ≤ 255
  n0 : 0 ≤ x.n
  n1 : x.n ≤ 255
theorem insAt_byt (s : ByteArray) (i : Nat) : (insAt s i).Byt := ⟨bt_lo _ _, bt_hi _ _, bt_lo _ _, bt_hi _ _, bt_lo _ _, bt_hi _ _, bt_lo _ _, bt_hi _ _, bt_lo _ _, bt_hi _ _⟩

/-- P7: does it hold, with so many others behind it? -/
def knownB (x : Ins) (left : Int) : Bool :=
  if 8 ≤ x.r then false else if x.op ≠ 65 ∧ x.n < 1 then false else
  if x.op = 71 ∨ x.op = 80 then decide (x.b ≤ 63 ∧ x.b % 8 + x.n ≤ 8 ∧ x.k + x.n ≤ 32)
  else if x.op = 88 then decide (x.n ≤ 32)
  else if x.op = 82 then decide (x.n ≤ 32 ∧ x.k ≤ 1)
  else if x.op = 74 then decide (x.n ≤ left)
  else decide (x.op = 65)

theorem known_mono {x : Ins} {l m : Int} (h : knownB x l = true) (hlm : l ≤ m) : knownB x m = true := by
  unfold knownB at h ⊢
  split at h
  · cases h
  · rename_i h1
    rw [if_neg h1]
    split at h
    · cases h
    · rename_i h2
      rw [if_neg h2]
      split at h
      · rename_i h3; rw [if_pos h3]; exact h
      · rename_i h3
        rw [if_neg h3]
        split at h
        · rename_i h4; rw [if_pos h4]; exact h
        · rename_i h4
          rw [if_neg h4]
          split at h
          · rename_i h5; rw [if_pos h5]; exact h
          · rename_i h5
            rw [if_neg h5]
            split at h
            · rename_i h6; rw [if_pos h6]; simp at h ⊢; omega
            · rename_i h6; rw [if_neg h6]; exact h

theorem known_all {x : Ins} {l : Int} (h : knownB x l = true) : x.r ≤ 7 ∧ (x.op = 65 ∨ 1 ≤ x.n) ∧ ((x.op = 71 ∨ x.op = 80) ∧ x.b ≤ 63 ∧ x.b % 8 + x.n ≤ 8 ∧ x.k + x.n ≤ 32 ∨ x.op = 88 ∧ x.n ≤ 32 ∨ x.op = 82 ∧ x.n ≤ 32 ∧ x.k ≤ 1 ∨ x.op = 74 ∧ x.n ≤ l ∨ x.op = 65) := by
  unfold knownB at h
  split at h
  · cases h
  · split at h
    · cases h
    · split at h
      · simp only [decide_eq_true_eq] at h; exact ⟨by omega, by omega, by omega⟩
      · split at h
        · simp only [decide_eq_true_eq] at h; exact ⟨by omega, by omega, by omega⟩
        · split at h
          · simp only [decide_eq_true_eq] at h; exact ⟨by omega, by omega, by omega⟩
          · split at h
            · simp only [decide_eq_true_eq] at h; exact ⟨by omega, by omega, by omega⟩
            · simp only [decide_eq_true_eq] at h; exact ⟨by omega, by omega, by omega⟩
theorem known_of {x : Ins} {l : Int} (h : x.r ≤ 7 ∧ (x.op = 65 ∨ 1 ≤ x.n) ∧ ((x.op = 71 ∨ x.op = 80) ∧ x.b ≤ 63 ∧ x.b % 8 + x.n ≤ 8 ∧ x.k + x.n ≤ 32 ∨ x.op = 88 ∧ x.n ≤ 32 ∨ x.op = 82 ∧ x.n ≤ 32 ∧ x.k ≤ 1 ∨ x.op = 74 ∧ x.n ≤ l ∨ x.op = 65)) : knownB x l = true := by
  obtain ⟨h1, h2, h3⟩ := h
  unfold knownB
  rw [if_neg (by omega), if_neg (by omega)]
  rcases h3 with ⟨h, h3⟩ | ⟨h, h3⟩ | ⟨h, h3⟩ | ⟨h, h3⟩ | h
  · rw [if_pos h]; simpa using h3
  · rw [if_neg (by omega), if_pos h]; simpa using h3
  · rw [if_neg (by omega), if_neg (by omega), if_pos h]; simpa using h3
  · rw [if_neg (by omega), if_neg (by omega), if_neg (by omega), if_pos h]; simpa using h3
  · rw [if_neg (by omega), if_neg (by omega), if_neg (by omega), if_neg (by omega)]; simpa using h
theorem known_r {x : Ins} {l : Int} (h : knownB x l = true) : x.r ≤ 7 := (known_all h).1
theorem known_move {x : Ins} {l : Int} (h : knownB x l = true) (ho : x.op = 71 ∨ x.op = 80) : 1 ≤ x.n ∧ x.b ≤ 63 ∧ x.b % 8 + x.n ≤ 8 ∧ x.k + x.n ≤ 32 := by
  have := known_all h; omega
theorem known_x {x : Ins} {l : Int} (h : knownB x l = true) (ho : x.op = 88) : 1 ≤ x.n ∧ x.n ≤ 32 := by
  have := known_all h; omega
theorem known_range {x : Ins} {l : Int} (h : knownB x l = true) (ho : x.op = 82) : 1 ≤ x.n ∧ x.n ≤ 32 ∧ x.k ≤ 1 := by
  have := known_all h; omega
theorem known_jump {x : Ins} {l : Int} (h : knownB x l = true) (ho : x.op = 74) : 1 ≤ x.n ∧ x.n ≤ l := by
  have := known_all h; omega
theorem known_op {x : Ins} {l : Int} (h : knownB x l = true) : x.op = 71 ∨ x.op = 80 ∨ x.op = 88 ∨ x.op = 82 ∨ x.op = 74 ∨ x.op = 65 := by
  have := known_all h; omega

/-- Bit q becomes c. -/
def setb (N q : Nat) (c : Bool) : Nat := if N.testBit q = c then N else N ^^^ 2 ^ q
theorem setb_test (N q : Nat) (c : Bool) (i : Nat) : (setb N q c).testBit i = if i = q then c else N.testBit i := by
  unfold setb
  split
  · rename_i h; split
    · rename_i e; subst e; exact h
    · rfl
  · rename_i h
    rw [Nat.testBit_xor, Nat.testBit_two_pow]
    split
    · rename_i e; subst e
      cases c <;> cases hb : N.testBit i <;> simp_all
    · rename_i e
      have : ¬ q = i := fun h => e h.symm
      simp [this]
theorem setb_lt {N q n : Nat} (c : Bool) (h : N < 2 ^ n) (hq : q < n) : setb N q c < 2 ^ n := by
  unfold setb
  split
  · exact h
  · exact Nat.xor_lt_two_pow h (Nat.pow_lt_pow_right (by omega) hq)
theorem setb_add {x q : Nat} (h : x < 2 ^ q) (c : Bool) : setb x q c = x + c.toNat * 2 ^ q := by
  have hx : x.testBit q = false := Nat.testBit_lt_two_pow h
  cases c with
  | false => simp [setb, hx]
  | true =>
    rw [Bool.toNat_true, Nat.one_mul]
    have e : x + 2 ^ q = 2 ^ q ||| x := by
      have := Nat.two_pow_add_eq_or_of_lt h 1
      rw [Nat.mul_one] at this
      omega
    rw [e]
    apply Nat.eq_of_testBit_eq
    intro i
    rw [setb_test, Nat.testBit_or, Nat.testBit_two_pow]
    split
    · rename_i e; subst e; simp
    · rename_i e
      have : ¬ q = i := fun h => e h.symm
      simp [this]

/-- For j below n: bit k + j of x is laid into bit b + j of N. -/
def putTo (N x b k : Nat) : Nat → Nat
  | 0 => N
  | j + 1 => setb (putTo N x b k j) (b + j) (x.testBit (k + j))
theorem putTo_test (N x b k n q : Nat) : (putTo N x b k n).testBit q = if b ≤ q ∧ q < b + n then x.testBit (k + (q - b)) else N.testBit q := by
  induction n with
  | zero => rw [putTo, if_neg (by omega)]
  | succ n ih =>
    rw [putTo, setb_test, ih]
    by_cases e : q = b + n
    · rw [if_pos e, if_pos (by omega), e, Nat.add_sub_cancel_left]
    · rw [if_neg e]
      by_cases h : b ≤ q ∧ q < b + n
      · rw [if_pos h, if_pos (by omega)]
      · rw [if_neg h, if_neg (by omega)]
theorem putTo_lt {N m : Nat} (x b k n : Nat) (h : N < 2 ^ m) (hb : b + n ≤ m) : putTo N x b k n < 2 ^ m := by
  induction n with
  | zero => exact h
  | succ n ih => rw [putTo]; exact setb_lt _ (ih (by omega)) (by omega)

/-- What a register is modulo 2 to the 32. -/
def low (v : Int) : Nat := (v % 4294967296).toNat
theorem low_lt (v : Int) : low v < 4294967296 := by unfold low; omega

/-- What a run works on. -/
structure St where
  reg : Nat → Int
  mark : Nat → Bool
  N : Nat

def upd {α : Type} (f : Nat → α) (r : Nat) (v : α) : Nat → α := fun j => if j = r then v else f j

/-- What an instruction does, and how many behind it are left out; none: the run ends. -/
def act (x : Ins) (s : St) : Option (St × Nat) :=
  if x.op = 71 then some ({ s with reg := upd s.reg x.r.toNat (putTo (low (s.reg x.r.toNat)) s.N x.k.toNat x.b.toNat x.n.toNat : Nat) }, 0)
  else if x.op = 80 then some ({ s with N := putTo s.N (low (s.reg x.r.toNat)) x.b.toNat x.k.toNat x.n.toNat }, 0)
  else if x.op = 88 then some ({ s with reg := upd s.reg x.r.toNat (extV (s.reg x.r.toNat) x.n) }, 0)
  else if x.op = 82 then (if fitsB (if x.k = 1 then 115 else 117) x.n (s.reg x.r.toNat) then some (s, 0) else none)
  else if x.op = 74 then some (s, if s.reg x.r.toNat = x.b then 0 else x.n.toNat)
  else some ({ s with mark := upd s.mark x.r.toNat true }, 0)

theorem act_put {r b k n : Int} (S : St) : act ⟨80, r, b, k, n⟩ S = some ({ S with N := putTo S.N (low (S.reg r.toNat)) b.toNat k.toNat n.toNat }, 0) := by
  simp [act]
theorem act_get {r b k n : Int} (S : St) : act ⟨71, r, b, k, n⟩ S = some ({ S with reg := upd S.reg r.toNat (putTo (low (S.reg r.toNat)) S.N k.toNat b.toNat n.toNat : Nat) }, 0) := by
  simp [act]
theorem act_x {r b k n : Int} (S : St) : act ⟨88, r, b, k, n⟩ S = some ({ S with reg := upd S.reg r.toNat (extV (S.reg r.toNat) n) }, 0) := by
  simp [act]
theorem act_range {r b k n : Int} (S : St) : act ⟨82, r, b, k, n⟩ S = if fitsB (if k = 1 then 115 else 117) n (S.reg r.toNat) then some (S, 0) else none := by
  simp [act]
theorem act_jump {r b k n : Int} (S : St) : act ⟨74, r, b, k, n⟩ S = some (S, if S.reg r.toNat = b then 0 else n.toNat) := by
  simp [act]
theorem act_mark {r b k n : Int} (S : St) : act ⟨65, r, b, k, n⟩ S = some ({ S with mark := upd S.mark r.toNat true }, 0) := by
  simp [act]

/-- P8. -/
def mrun : Nat → List Ins → St → St × Int × Int
  | 0, _, s => (s, 0, 0)
  | _ + 1, [], s => (s, 0, 0)
  | f + 1, x :: l, s => match act x s with
    | none => (s, 9, x.r)
    | some (s', d) => mrun f (l.drop d) s'
theorem mrun_fuel : ∀ (f : Nat) (l : List Ins) (s : St), l.length ≤ f → mrun f l s = mrun l.length l s := by
  intro f
  induction f using Nat.strongRecOn with
  | ind f ih =>
    intro l s h
    cases l with
    | nil => cases f <;> simp [mrun]
    | cons x l =>
      obtain ⟨f, rfl⟩ : ∃ g, f = g + 1 := ⟨f - 1, by simp at h; omega⟩
      simp only [List.length_cons] at h
      rw [mrun, List.length_cons, mrun]
      cases act x s with
      | none => rfl
      | some y =>
        obtain ⟨s', d⟩ := y
        simp only
        have hd : (l.drop d).length ≤ l.length := by simp
        by_cases e : l.length = f
        · rw [e]
        · rw [ih f (by omega) _ _ (by omega), ← ih l.length (by omega) _ _ hd]
def runL (l : List Ins) (s : St) : St × Int × Int := mrun l.length l s
theorem runL_nil (s : St) : runL [] s = (s, 0, 0) := rfl
theorem runL_cons (x : Ins) (l : List Ins) (s : St) : runL (x :: l) s = match act x s with
    | none => (s, 9, x.r)
    | some (s', d) => runL (l.drop d) s' := by
  rw [runL, List.length_cons, mrun]
  cases act x s with
  | none => rfl
  | some y =>
    obtain ⟨s', d⟩ := y
    simp only
    exact mrun_fuel _ _ _ (by simp)

/-- Code that Verify admits. -/
def Fine (l : List Ins) : Prop := ∀ (i : Nat) (x : Ins), l[i]? = some x → x.Byt ∧ knownB x ((l.length : Int) - 1 - i) = true
/-- The code of a row of instructions. -/
def Ins.bytes (x : Ins) : List Int := [x.op, x.r, x.b, x.k, x.n]
def codeB (l : List Ins) : ByteArray := strOfNums (l.flatMap Ins.bytes)

end Go.Proofs.Ytoihlnjcgopdlaa

namespace Go.Proofs.Ytoihlnjcgopdlaa
open Go.RowKit

set_option maxHeartbeats 1000000 in
theorem readInstruction_any (t : ByteArray) (w : World) (h5 : t.size = 5) :
    Calls Try.prog 78 #[.string t] w fun e w' =>
      e = .returned (.agg #[.int .u8 (bt t 0), .int .i64 (bt t 1), .int .i64 (bt t 2), .int .i64 (bt t 3), .int .i64 (bt t 4)]) ∧ Below w.heap.size w w' := by
  have hn : ((t.size : Int) != 5) = false := by rw [h5]; rfl
  have i0 : (0 : Int) < (t.size : Int) := by omega
  have i1 : (1 : Int) < (t.size : Int) := by omega
  have i2 : (2 : Int) < (t.size : Int) := by omega
  have i3 : (3 : Int) < (t.size : Int) := by omega
  have i4 : (4 : Int) < (t.size : Int) := by omega
  have H5 := hide h5
  clear h5
  have q0 : 0 < t.size := by omega
  have q1 : 1 < t.size := by omega
  have q2 : 2 < t.size := by omega
  have q3 : 3 < t.size := by omega
  have q4 : 4 < t.size := by omega
  have w1 : IntKind.i64.wrap (t[1].toNat : Int) = (t[1].toNat : Int) := by have := (t[1]).toNat_lt; rw [IntKind.wrap_i64]; omega
  have w2 : IntKind.i64.wrap (t[2].toNat : Int) = (t[2].toNat : Int) := by have := (t[2]).toNat_lt; rw [IntKind.wrap_i64]; omega
  have w3 : IntKind.i64.wrap (t[3].toNat : Int) = (t[3].toNat : Int) := by have := (t[3]).toNat_lt; rw [IntKind.wrap_i64]; omega
  have w4 : IntKind.i64.wrap (t[4].toNat : Int) = (t[4].toNat : Int) := by have := (t[4]).toNat_lt; rw [IntKind.wrap_i64]; omega
  go_enter Try.func78, Try.ntmps78
  go_wp2
  refine wp_region_noPanic ?_
  refine wp_region_held_drew (S := fun _ => True) (by kernel_rfl) trivial (fun hHeld => ?_)
  refine wpAnyH_take (i := 0) (v := ?_) (at_list rfl) (by kernel_rfl) (by kernel_rfl) (by kernel_rfl) (fun _ _ _ h => h) (Or.inl ⟨by rfl, ?_⟩) (by assumption) ?_
  rotate_left
  · intro w hSw; (try dsimp only at hSw); first | (go_simp; done) | (go_simp; with_reducible rfl)
  try simp only [Act.put]
  try simp only [List.setIfInBounds_toArray]
  try simp only [List.set_cons_succ]
  try simp only [List.set_cons_zero]
  refine wpAnyH_take (i := 2) (v := ?_) (at_list rfl) (by kernel_rfl) (by kernel_rfl) (by kernel_rfl) (fun _ _ _ h => h) (Or.inl ⟨by rfl, ?_⟩) (by assumption) ?_
  rotate_left
  · intro w hSw; (try dsimp only at hSw); first | (go_simp; done) | (go_simp; with_reducible rfl)
  try simp only [Act.put]
  try simp only [List.setIfInBounds_toArray]
  try simp only [List.set_cons_succ]
  try simp only [List.set_cons_zero]
  refine wpAnyH_take (i := 5) (v := ?_) (at_list rfl) (by kernel_rfl) (by kernel_rfl) (by kernel_rfl) (fun _ _ _ h => h) (Or.inl ⟨by rfl, ?_⟩) (by assumption) ?_
  rotate_left
  · intro w hSw; (try dsimp only at hSw); first | (go_simp; done) | (go_simp; with_reducible rfl)
  try simp only [Act.put]
  try simp only [List.setIfInBounds_toArray]
  try simp only [List.set_cons_succ]
  try simp only [List.set_cons_zero]
  refine wpAnyH_take (i := 8) (v := ?_) (at_list rfl) (by kernel_rfl) (by kernel_rfl) (by kernel_rfl) (fun _ _ _ h => h) (Or.inl ⟨by rfl, ?_⟩) (by assumption) ?_
  rotate_left
  · intro w hSw; (try dsimp only at hSw); first | (go_simp; done) | (go_simp; with_reducible rfl)
  try simp only [Act.put]
  try simp only [List.setIfInBounds_toArray]
  try simp only [List.set_cons_succ]
  try simp only [List.set_cons_zero]
  refine wpAnyH_take (i := 11) (v := ?_) (at_list rfl) (by kernel_rfl) (by kernel_rfl) (by kernel_rfl) (fun _ _ _ h => h) (Or.inl ⟨by rfl, ?_⟩) (by assumption) ?_
  rotate_left
  · intro w hSw; (try dsimp only at hSw); first | (go_simp; done) | (go_simp; with_reducible rfl)
  try simp only [Act.put]
  try simp only [List.setIfInBounds_toArray]
  try simp only [List.set_cons_succ]
  try simp only [List.set_cons_zero]
  refine wpAnyH_take (i := 1) (v := ?_) (at_list rfl) (by kernel_rfl) (by kernel_rfl) (by kernel_rfl) (fun _ _ _ h => h) (Or.inl ⟨by rfl, ?_⟩) (by assumption) ?_
  rotate_left
  · intro w hSw; (try dsimp only at hSw); first | (go_simp; done) | (go_simp; with_reducible rfl)
  try simp only [Act.put]
  try simp only [List.setIfInBounds_toArray]
  try simp only [List.set_cons_succ]
  try simp only [List.set_cons_zero]
  refine wpAnyH_take (i := 3) (v := ?_) (at_list rfl) (by kernel_rfl) (by kernel_rfl) (by kernel_rfl) (fun _ _ _ h => h) (Or.inl ⟨by rfl, ?_⟩) (by assumption) ?_
  rotate_left
  · intro w hSw; (try dsimp only at hSw); first | (go_simp; done) | (go_simp; with_reducible rfl)
  try simp only [Act.put]
  try simp only [List.setIfInBounds_toArray]
  try simp only [List.set_cons_succ]
  try simp only [List.set_cons_zero]
  refine wpAnyH_take (i := 6) (v := ?_) (at_list rfl) (by kernel_rfl) (by kernel_rfl) (by kernel_rfl) (fun _ _ _ h => h) (Or.inl ⟨by rfl, ?_⟩) (by assumption) ?_
  rotate_left
  · intro w hSw; (try dsimp only at hSw); first | (go_simp; done) | (go_simp; with_reducible rfl)
  try simp only [Act.put]
  try simp only [List.setIfInBounds_toArray]
  try simp only [List.set_cons_succ]
  try simp only [List.set_cons_zero]
  refine wpAnyH_take (i := 9) (v := ?_) (at_list rfl) (by kernel_rfl) (by kernel_rfl) (by kernel_rfl) (fun _ _ _ h => h) (Or.inl ⟨by rfl, ?_⟩) (by assumption) ?_
  rotate_left
  · intro w hSw; (try dsimp only at hSw); first | (go_simp; done) | (go_simp; with_reducible rfl)
  try simp only [Act.put]
  try simp only [List.setIfInBounds_toArray]
  try simp only [List.set_cons_succ]
  try simp only [List.set_cons_zero]
  refine wpAnyH_take (i := 12) (v := ?_) (at_list rfl) (by kernel_rfl) (by kernel_rfl) (by kernel_rfl) (fun _ _ _ h => h) (Or.inl ⟨by rfl, ?_⟩) (by assumption) ?_
  rotate_left
  · intro w hSw; (try dsimp only at hSw); first | (go_simp; done) | (go_simp; with_reducible rfl)
  try simp only [Act.put]
  try simp only [List.setIfInBounds_toArray]
  try simp only [List.set_cons_succ]
  try simp only [List.set_cons_zero]
  refine wpAnyH_take (i := 4) (v := ?_) (at_list rfl) (by kernel_rfl) (by kernel_rfl) (by kernel_rfl) (fun _ _ _ h => h) (Or.inl ⟨by rfl, ?_⟩) (by assumption) ?_
  rotate_left
  · intro w hSw; (try dsimp only at hSw); first | (go_simp; done) | (go_simp; with_reducible rfl)
  try simp only [Act.put]
  try simp only [List.setIfInBounds_toArray]
  try simp only [List.set_cons_succ]
  try simp only [List.set_cons_zero]
  refine wpAnyH_take (i := 7) (v := ?_) (at_list rfl) (by kernel_rfl) (by kernel_rfl) (by kernel_rfl) (fun _ _ _ h => h) (Or.inl ⟨by rfl, ?_⟩) (by assumption) ?_
  rotate_left
  · intro w hSw; (try dsimp only at hSw); first | (go_simp; done) | (go_simp; with_reducible rfl)
  try simp only [Act.put]
  try simp only [List.setIfInBounds_toArray]
  try simp only [List.set_cons_succ]
  try simp only [List.set_cons_zero]
  refine wpAnyH_take (i := 10) (v := ?_) (at_list rfl) (by kernel_rfl) (by kernel_rfl) (by kernel_rfl) (fun _ _ _ h => h) (Or.inl ⟨by rfl, ?_⟩) (by assumption) ?_
  rotate_left
  · intro w hSw; (try dsimp only at hSw); first | (go_simp; done) | (go_simp; with_reducible rfl)
  try simp only [Act.put]
  try simp only [List.setIfInBounds_toArray]
  try simp only [List.set_cons_succ]
  try simp only [List.set_cons_zero]
  refine wpAnyH_take (i := 13) (v := ?_) (at_list rfl) (by kernel_rfl) (by kernel_rfl) (by kernel_rfl) (fun _ _ _ h => h) (Or.inl ⟨by rfl, ?_⟩) (by assumption) ?_
  rotate_left
  · intro w hSw; (try dsimp only at hSw); first | (go_simp; done) | (go_simp; with_reducible rfl)
  try simp only [Act.put]
  try simp only [List.setIfInBounds_toArray]
  try simp only [List.set_cons_succ]
  try simp only [List.set_cons_zero]
  refine wpAnyH_take (i := 14) (v := ?_) (at_list rfl) (by kernel_rfl) (by kernel_rfl) (by kernel_rfl) (fun _ _ _ h => h) (Or.inl ⟨by rfl, ?_⟩) (by assumption) ?_
  rotate_left
  · intro w hSw; (try dsimp only at hSw); first | (go_simp; done) | (go_simp; with_reducible rfl)
  try simp only [Act.put]
  try simp only [List.setIfInBounds_toArray]
  try simp only [List.set_cons_succ]
  try simp only [List.set_cons_zero]
  refine wpAnyH_ready (rs := [15]) (by kernel_rfl) (by simp) ?_
  refine AllReadyH.cons (at_list rfl) (fun K hK => ?_) AllReadyH.nil
  go_simp
  refine hK.out _ _ (trivial) (fun hHeld => ?_)
  clear hK K
  try simp only [Act.put]
  try simp only [List.setIfInBounds_toArray]
  try simp only [List.set_cons_succ]
  try simp only [List.set_cons_zero]
  refine wpAnyH_done (by kernel_rfl) ?_ _
  refine NoPanic.normal ?_
  go_wp2
  rw [← bt_of (show 0 < t.size by omega), ← bt_of (show 1 < t.size by omega), ← bt_of (show 2 < t.size by omega), ← bt_of (show 3 < t.size by omega), ← bt_of (show 4 < t.size by omega)]
  exact bodyPost_ret (v := .agg #[.int .u8 t[0].toNat, .int .i64 t[1].toNat, .int .i64 t[2].toNat, .int .i64 t[3].toNat, .int .i64 t[4].toNat]) (by simp [results, Try.results78, go_sem]) rfl ⟨rfl, ((Below.refl _ _).alloc (Nat.le_refl _) _).drew⟩

set_option maxHeartbeats 2000000 in
theorem isInstruction_any (op r b k n left : Int) (w : World) (hb : (⟨op, r, b, k, n⟩ : Ins).Byt) :
    Calls Try.prog 79 #[.agg #[.int .u8 op, .int .i64 r, .int .i64 b, .int .i64 k, .int .i64 n], .int .i64 left] w
      fun e w' => e = .returned (.bool (knownB ⟨op, r, b, k, n⟩ left)) ∧ Below w.heap.size w w' := by
  obtain ⟨o0, o1, r0, r1, b0, b1, k0, k1, n0, n1⟩ := hb
  simp only at o0 o1 r0 r1 b0 b1 k0 k1 n0 n1
  by_cases h65 : op = 65
  · subst h65
    go_enter Try.func79, Try.ntmps79
    go_wp2
    all_goals (go_ret; exact ⟨ret_bool (by rw [Bool.eq_iff_iff]; simp [knownB]; try omega), (Below.refl _ _).alloc (Nat.le_refl _) _⟩)
  by_cases h71 : op = 71
  · subst h71
    go_enter Try.func79, Try.ntmps79
    go_wp2
    all_goals (go_ret; exact ⟨ret_bool (by rw [Bool.eq_iff_iff]; simp [knownB]; try omega), (Below.refl _ _).alloc (Nat.le_refl _) _⟩)
  by_cases h80 : op = 80
  · subst h80
    go_enter Try.func79, Try.ntmps79
    go_wp2
    all_goals (go_ret; exact ⟨ret_bool (by rw [Bool.eq_iff_iff]; simp [knownB]; try omega), (Below.refl _ _).alloc (Nat.le_refl _) _⟩)
  by_cases h88 : op = 88
  · subst h88
    go_enter Try.func79, Try.ntmps79
    go_wp2
    all_goals (go_ret; exact ⟨ret_bool (by rw [Bool.eq_iff_iff]; simp [knownB]; try omega), (Below.refl _ _).alloc (Nat.le_refl _) _⟩)
  by_cases h82 : op = 82
  · subst h82
    go_enter Try.func79, Try.ntmps79
    go_wp2
    all_goals (go_ret; exact ⟨ret_bool (by rw [Bool.eq_iff_iff]; simp [knownB]; try omega), (Below.refl _ _).alloc (Nat.le_refl _) _⟩)
  by_cases h74 : op = 74
  · subst h74
    go_enter Try.func79, Try.ntmps79
    go_wp2
    all_goals (go_ret; exact ⟨ret_bool (by rw [Bool.eq_iff_iff]; simp [knownB]; try omega), (Below.refl _ _).alloc (Nat.le_refl _) _⟩)
  · have e65 : (op == 65) = false := by simpa using h65
    have e71 : (op == 71) = false := by simpa using h71
    have e80 : (op == 80) = false := by simpa using h80
    have e88 : (op == 88) = false := by simpa using h88
    have e82 : (op == 82) = false := by simpa using h82
    have e74 : (op == 74) = false := by simpa using h74
    have HK := hide (show knownB ⟨op, r, b, k, n⟩ left = false by
      simp only [knownB]
      split
      · rfl
      · split
        · rfl
        · simp [h65, h71, h80])
    have n65 : (op != 65) = true := by simpa using h65
    clear h65 h71 h80 h88 h82 h74
    go_enter Try.func79, Try.ntmps79
    go_wp2
    all_goals (go_ret; exact ⟨ret_bool (by rw [unhide HK]), (Below.refl _ _).alloc (Nat.le_refl _) _⟩)

end Go.Proofs.Ytoihlnjcgopdlaa

namespace Go.Proofs.Ytoihlnjcgopdlaa
open Go.RowKit

theorem andNot_u64_nat (a b : Nat) (ha : a < 18446744073709551616) :
    ∃ c : Nat, bits BinOp.andNot IntKind.u64 (a : Int) (b : Int) = (c : Int) ∧ c < 18446744073709551616 ∧ ∀ i, c.testBit i = (a.testBit i && !b.testBit i) := by
  refine ⟨(BitVec.ofNat 64 a &&& ~~~ BitVec.ofNat 64 b).toNat, ?_, (BitVec.ofNat 64 a &&& ~~~ BitVec.ofNat 64 b).isLt, fun i => ?_⟩
  · show IntKind.u64.wrap ((BitVec.ofInt 64 (a : Int) &&& ~~~ BitVec.ofInt 64 (b : Int)).toNat : Int) = _
    rw [BitVec.ofInt_natCast, BitVec.ofInt_natCast, IntKind.wrap_u64]
    have := (BitVec.ofNat 64 a &&& ~~~ BitVec.ofNat 64 b).isLt
    omega
  · rw [BitVec.testBit_toNat, BitVec.getLsbD_and, BitVec.getLsbD_not, BitVec.getLsbD_ofNat, BitVec.getLsbD_ofNat]
    by_cases h : i < 64
    · simp [h]
    · have : a.testBit i = false := Nat.testBit_lt_two_pow (Nat.lt_of_lt_of_le ha (by
        rw [show (18446744073709551616 : Nat) = 2 ^ 64 from rfl]; exact Nat.pow_le_pow_right (by omega) (by omega)))
      simp [h, this]
theorem ones_lt {b n x : Nat} (h : b + n ≤ 64) (hx : x < 2 ^ n) : x * 2 ^ b < 18446744073709551616 := by
  rw [show (18446744073709551616 : Nat) = 2 ^ 64 from rfl]
  refine Nat.lt_of_lt_of_le (Nat.mul_lt_mul_of_pos_right hx (Nat.two_pow_pos b)) ?_
  rw [← Nat.pow_add]; exact Nat.pow_le_pow_right (by omega) (by omega)
theorem test_mul (x b i : Nat) : (x * 2 ^ b).testBit i = (decide (b ≤ i) && x.testBit (i - b)) := by
  rw [← Nat.shiftLeft_eq, Nat.testBit_shiftLeft]

theorem putTo_bits {N X b k n : Nat} (hN : N < 18446744073709551616) (hbn : b + n ≤ 64) :
    bits BinOp.or IntKind.u64 (bits BinOp.andNot IntKind.u64 (N : Int) (((2 ^ n - 1) * 2 ^ b : Nat) : Int)) (((X / 2 ^ k % 2 ^ n) * 2 ^ b : Nat) : Int) = ((putTo N X b k n : Nat) : Int) := by
  obtain ⟨c, hc, hl, ht⟩ := andNot_u64_nat N ((2 ^ n - 1) * 2 ^ b) hN
  rw [hc, bits_or_u64_nat _ _ hl (ones_lt hbn (Nat.mod_lt _ (Nat.two_pow_pos n)))]
  congr 1
  apply Nat.eq_of_testBit_eq
  intro i
  rw [Nat.testBit_or, ht, test_mul, test_mul, putTo_test, Nat.testBit_two_pow_sub_one, Nat.testBit_mod_two_pow, Nat.testBit_div_two_pow]
  by_cases h : b ≤ i ∧ i < b + n
  · have h1 : b ≤ i := h.1
    have h2 : i - b < n := by omega
    rw [if_pos h]
    simp [h1, h2, Nat.add_comm]
  · rw [if_neg h]
    by_cases h1 : b ≤ i
    · have h2 : ¬ i - b < n := by omega
      simp [h1, h2]
    · simp [h1]

/-- Only so many bits of what is laid count. -/
theorem putTo_congr {N X Y b k n : Nat} (h : ∀ j, j < k + n → X.testBit j = Y.testBit j) : putTo N X b k n = putTo N Y b k n := by
  induction n with
  | zero => rfl
  | succ n ih => rw [putTo, putTo, ih (fun j hj => h j (by omega)), h (k + n) (by omega)]

/-- What a register is as a uint64. -/
def wide (v : Int) : Nat := (v % 18446744073709551616).toNat
theorem wide_lt (v : Int) : wide v < 18446744073709551616 := by unfold wide; omega
theorem wide_wrap (v : Int) : IntKind.u64.wrap v = (wide v : Int) := by rw [IntKind.wrap_u64, wide]; omega
theorem low_wide (v : Int) : low v = wide v % 2 ^ 32 := by
  have e : (2 : Nat) ^ 32 = 4294967296 := rfl
  rw [e]; unfold low wide; omega
theorem wide_test (v : Int) (j : Nat) (h : j < 32) : (wide v).testBit j = (low v).testBit j := by
  rw [low_wide, Nat.testBit_mod_two_pow]; simp [h]
theorem and_ones (x n : Nat) (hx : x < 18446744073709551616) (hn : n ≤ 64) : bits BinOp.and IntKind.u64 (x : Int) ((2 ^ n - 1 : Nat) : Int) = ((x % 2 ^ n : Nat) : Int) := by
  have h1 : 2 ^ n ≤ 2 ^ 64 := Nat.pow_le_pow_right (by omega) hn
  have e : (2 : Nat) ^ 64 = 18446744073709551616 := rfl
  have h2 : 0 < 2 ^ n := Nat.two_pow_pos n
  rw [bits_and_u64_nat _ _ hx (by omega), Nat.and_two_pow_sub_one_eq_mod]

theorem nat_shift {x b n : Nat} (h : b + n ≤ 64) (hx : x < 2 ^ n) : IntKind.u64.wrap ((x : Int) * 2 ^ b) = ((x * 2 ^ b : Nat) : Int) := by
  have := ones_lt h hx
  have e : ((x : Int) * 2 ^ b) = ((x * 2 ^ b : Nat) : Int) := by simp
  rw [e, IntKind.wrap_u64]
  generalize x * 2 ^ b = y at *
  omega
theorem ones_wrap (n : Nat) (h : n ≤ 63) : IntKind.u64.wrap (IntKind.u64.wrap ((2 : Int) ^ n) - 1) = ((2 ^ n - 1 : Nat) : Int) := by
  have h1 : 2 ^ n ≤ 2 ^ 63 := Nat.pow_le_pow_right (by omega) h
  have e : (2 : Nat) ^ 63 = 9223372036854775808 := rfl
  have h2 : 0 < 2 ^ n := Nat.two_pow_pos n
  have e2 : ((2 : Int) ^ n) = ((2 ^ n : Nat) : Int) := by simp
  rw [e2, IntKind.wrap_u64, IntKind.wrap_u64]
  omega
theorem ones_lt2 (n : Nat) : 2 ^ n - 1 < 2 ^ n := by have : 0 < 2 ^ n := Nat.two_pow_pos n; omega

theorem put_final {N b k n : Nat} (v : Int) (hN : N < 18446744073709551616) (hbn : b + n ≤ 64) (hn : n ≤ 63) (hk : k + n ≤ 32) :
    bits BinOp.or IntKind.u64 (bits BinOp.andNot IntKind.u64 (N : Int) (IntKind.u64.wrap (IntKind.u64.wrap (IntKind.u64.wrap (2 ^ n) - 1) * 2 ^ b)))
      (IntKind.u64.wrap (bits BinOp.and IntKind.u64 (IntKind.u64.wrap v / 2 ^ k) (IntKind.u64.wrap (IntKind.u64.wrap (2 ^ n) - 1)) * 2 ^ b)) = (putTo N (low v) b k n : Nat) := by
  have hle : wide v / 2 ^ k ≤ wide v := Nat.div_le_self _ _
  have hw := wide_lt v
  have e : ((wide v : Int) / 2 ^ k) = ((wide v / 2 ^ k : Nat) : Int) := by simp
  rw [ones_wrap n hn, wide_wrap v, e, and_ones _ _ (by omega) (by omega), nat_shift hbn (ones_lt2 n), nat_shift hbn (Nat.mod_lt _ (Nat.two_pow_pos n)), putTo_bits hN hbn,
    putTo_congr (fun j hj => wide_test v j (by omega))]
theorem get_final {N b k n : Nat} (v : Int) (hN : N < 18446744073709551616) (hkn : k + n ≤ 32) :
    wrap64 (bits BinOp.or IntKind.u64 (bits BinOp.andNot IntKind.u64 (bits BinOp.and IntKind.u64 (IntKind.u64.wrap v) 4294967295) (IntKind.u64.wrap (IntKind.u64.wrap (IntKind.u64.wrap (2 ^ n) - 1) * 2 ^ k)))
      (IntKind.u64.wrap (bits BinOp.and IntKind.u64 ((N : Int) / 2 ^ b) (IntKind.u64.wrap (IntKind.u64.wrap (2 ^ n) - 1)) * 2 ^ k))) = (putTo (low v) N k b n : Nat) := by
  have hle : N / 2 ^ b ≤ N := Nat.div_le_self _ _
  have hw := wide_lt v
  have hlw := low_lt v
  have e : ((N : Int) / 2 ^ b) = ((N / 2 ^ b : Nat) : Int) := by simp
  have e32 : (4294967295 : Int) = ((2 ^ 32 - 1 : Nat) : Int) := rfl
  have p32 : (2 : Nat) ^ 32 = 4294967296 := rfl
  rw [ones_wrap n (by omega), wide_wrap v, e32, and_ones _ 32 hw (by omega), ← low_wide, e, and_ones _ _ (by omega) (by omega), nat_shift (n := n) (by omega) (ones_lt2 n), nat_shift (n := n) (by omega) (Nat.mod_lt _ (Nat.two_pow_pos n)), putTo_bits (by omega) (by omega)]
  have := putTo_lt (m := 32) N k b n (N := low v) (by omega) (by omega)
  simp only [wrap64]
  omega

end Go.Proofs.Ytoihlnjcgopdlaa

namespace Go.Proofs.Ytoihlnjcgopdlaa
open Go.RowKit

set_option maxHeartbeats 1000000 in
theorem putBits_any (N : Nat) (v op r b k n : Int) (w : World) (hN : N < 18446744073709551616) (b0 : 0 ≤ b) (b1 : b ≤ 63) (n1 : 1 ≤ n) (h8 : b % 8 + n ≤ 8) (k0 : 0 ≤ k) (h32 : k + n ≤ 32) :
    Calls Try.prog 81 #[.int .u64 N, .int .i64 v, .agg #[.int .u8 op, .int .i64 r, .int .i64 b, .int .i64 k, .int .i64 n]] w
      fun e w' => e = .returned (.int .u64 (putTo N (low v) b.toNat k.toNat n.toNat : Nat)) ∧ Below w.heap.size w w' := by
  go_enter Try.func81, Try.ntmps81
  go_wp2
  go_ret
  refine ⟨ret_u64 ?_, ?_⟩
  · exact put_final v hN (by omega) (by omega) (by omega)
  · exact (Below.refl _ _).alloc (Nat.le_refl _) _

set_option maxHeartbeats 1000000 in
theorem getBits_any (N : Nat) (v op r b k n : Int) (w : World) (hN : N < 18446744073709551616) (b0 : 0 ≤ b) (b1 : b ≤ 63) (n1 : 1 ≤ n) (k0 : 0 ≤ k) (h32 : k + n ≤ 32) :
    Calls Try.prog 80 #[.int .i64 v, .int .u64 N, .agg #[.int .u8 op, .int .i64 r, .int .i64 b, .int .i64 k, .int .i64 n]] w
      fun e w' => e = .returned (.int .i64 (putTo (low v) N k.toNat b.toNat n.toNat : Nat)) ∧ Below w.heap.size w w' := by
  go_enter Try.func80, Try.ntmps80
  go_wp2
  go_ret
  refine ⟨ret_int ?_, ?_⟩
  · exact get_final v hN (by omega)
  · exact (Below.refl _ _).alloc (Nat.le_refl _) _

end Go.Proofs.Ytoihlnjcgopdlaa

namespace Go.Proofs.Ytoihlnjcgopdlaa
open Go.RowKit

/-- The cells of an instruction in the program's row; what the slice value v reads as. -/
def Ins.cells (x : Ins) : List Value := [.int .u8 x.op, .int .i64 x.r, .int .i64 x.b, .int .i64 x.k, .int .i64 x.n]
def InsAt (w : World) (v : Value) (L : List Ins) : Prop := w.ownsRow 0 128 5 v L.length (L.flatMap Ins.cells)

/-- The program's machine, in its block. -/
def mcells (s : St) : List Value := [.int .i64 (s.reg 0), .int .i64 (s.reg 1), .int .i64 (s.reg 2), .int .i64 (s.reg 3), .int .i64 (s.reg 4), .int .i64 (s.reg 5), .int .i64 (s.reg 6), .int .i64 (s.reg 7),
  .bool (s.mark 0), .bool (s.mark 1), .bool (s.mark 2), .bool (s.mark 3), .bool (s.mark 4), .bool (s.mark 5), .bool (s.mark 6), .bool (s.mark 7), .int .u64 s.N]
def MachAt (w : World) (g : Nat) (s : St) : Prop := w.ownsRow g 101 17 (.slice (some ⟨g, 0, none⟩) 1 1) 1 (mcells s)

theorem eight {r : Nat} (h : r < 8) : r = 0 ∨ r = 1 ∨ r = 2 ∨ r = 3 ∨ r = 4 ∨ r = 5 ∨ r = 6 ∨ r = 7 := by omega
theorem MachAt.reg {w : World} {g : Nat} {s : St} (h : MachAt w g s) {r : Nat} (hr : r < 8) : w.cell? ⟨g, r, none⟩ = some (.int .i64 (s.reg r)) := by
  rw [World.ownsRow.cellAt h r (by omega)]
  rcases eight hr with rfl | rfl | rfl | rfl | rfl | rfl | rfl | rfl <;> rfl
theorem MachAt.mark {w : World} {g : Nat} {s : St} (h : MachAt w g s) {r : Nat} (hr : r < 8) : w.cell? ⟨g, 8 + r, none⟩ = some (.bool (s.mark r)) := by
  rw [World.ownsRow.cellAt h (8 + r) (by omega)]
  rcases eight hr with rfl | rfl | rfl | rfl | rfl | rfl | rfl | rfl <;> rfl
theorem MachAt.bits {w : World} {g : Nat} {s : St} (h : MachAt w g s) : w.cell? ⟨g, 16, none⟩ = some (.int .u64 s.N) := by
  rw [World.ownsRow.cellAt h 16 (by omega)]; rfl
theorem MachAt.free {w : World} {g : Nat} {s : St} (h : MachAt w g s) (j : Nat) : w.frozen? ⟨g, j, none⟩ = false := World.ownsRow.frozenAt h j
theorem MachAt.setReg {w : World} {g : Nat} {s : St} (h : MachAt w g s) {r : Nat} (hr : r < 8) (v : Int) : MachAt (w.setCell ⟨g, r, none⟩ (.int .i64 v)) g { s with reg := upd s.reg r v } := by
  have := (World.ownsRow.stored h r (.int .i64 v)).1
  unfold MachAt
  rcases eight hr with rfl | rfl | rfl | rfl | rfl | rfl | rfl | rfl <;> exact this
theorem MachAt.setMark {w : World} {g : Nat} {s : St} (h : MachAt w g s) {r : Nat} (hr : r < 8) : MachAt (w.setCell ⟨g, 8 + r, none⟩ (.bool true)) g { s with mark := upd s.mark r true } := by
  have := (World.ownsRow.stored h (8 + r) (.bool true)).1
  unfold MachAt
  rcases eight hr with rfl | rfl | rfl | rfl | rfl | rfl | rfl | rfl <;> exact this
theorem MachAt.setBits {w : World} {g : Nat} {s : St} (h : MachAt w g s) (M : Nat) : MachAt (w.setCell ⟨g, 16, none⟩ (.int .u64 M)) g { s with N := M } := by
  have := (World.ownsRow.stored h 16 (.int .u64 M)).1
  exact this
theorem MachAt.bel {w w' : World} {g : Nat} {s : St} (h : MachAt w g s) (hb : Below w.heap.size w w') : MachAt w' g s := ownsRow_bel h hb
theorem MachAt.lt {w : World} {g : Nat} {s : St} (h : MachAt w g s) : g < w.heap.size := (World.ownsRow.lt h g rfl).2

end Go.Proofs.Ytoihlnjcgopdlaa

namespace Go.Proofs.Ytoihlnjcgopdlaa
open Go.RowKit

theorem Try.infoRSig : (Try.prog.info? 71).map (fun i => (i.zero, i.size, i.bytes)) = some (some (.agg #[.int .u8 0, .int .i64 0, .int .i64 0, .bool false, .bool false, .int .u8 0, .int .i64 0]), 7, 40) := by kernel_rfl

def RMsgOut (s : ByteArray) (i : Nat) (e : Ending) (w' : World) : Prop :=
  match pMsg s i with
  | .inl p => e = .returned (.tuple #[.agg #[.string { data := #[] }, .int .i64 0, .slice none 0 0, .int .i64 0], .int .i64 p, .bool false])
  | .inr (m, q) => ∃ sv, e = .returned (.tuple #[.agg #[.string m.id, .int .i64 m.sz, sv, .int .i64 m.pl], .int .i64 q, .bool true]) ∧ RSigsAt w' sv m.sigs

theorem RMsgOut_bad {s : ByteArray} {i p : Nat} {w' : World} {q : Int} (h : pMsg s i = .inl p) (hq : q = p) : RMsgOut s i (.returned (.tuple #[.agg #[.string { data := #[] }, .int .i64 0, .slice none 0 0, .int .i64 0], .int .i64 q, .bool false])) w' := by
  unfold RMsgOut; rw [h, hq]
theorem RMsgOut_good {s : ByteArray} {i q : Nat} {l : List Sg} {w' : World} {sv : Value} {sz : Int} (h : pMsg s i = .inr (mkMsg s i l, q)) (hsz : sz = bt s (i + 3) - 48) (hs : RSigsAt w' sv l) :
    RMsgOut s i (.returned (.tuple #[.agg #[.string (s.extract i (i + 3)), .int .i64 sz, sv, .int .i64 i], .int .i64 q, .bool true])) w' := by
  unfold RMsgOut; rw [h, hsz]; exact ⟨sv, rfl, hs⟩

theorem rSigOut_no {s : ByteArray} {i n : Nat} (hn : n = nSig s i) (h : nSig s i < 9) : rSigOut s i = .tuple #[.agg #[.int .u8 0, .int .i64 0, .int .i64 0, .bool false, .bool false, .int .u8 0, .int .i64 0], .int .i64 (i + n), .bool false] := by
  rw [rSigOut, if_pos h, ← hn]; simp [rZeroSig]
theorem rSigOut_yes {s : ByteArray} {i : Nat} (h : ¬ nSig s i < 9) : rSigOut s i = .tuple #[.agg #[.int .u8 (mkSig s i).nm, .int .i64 (mkSig s i).st, .int .i64 (mkSig s i).ln, .bool (decide ((mkSig s i).od = 62)), .bool (decide ((mkSig s i).kd = 115)), .int .u8 (mkSig s i).rl, .int .i64 (mkSig s i).pl], .int .i64 (i + 9), .bool true] := by
  rw [rSigOut, if_neg h]; simp

set_option maxRecDepth 100000 in
set_option maxHeartbeats 4000000 in
theorem rMessage_any (s : ByteArray) (i : Nat) (w : World) (hs : s.size ≤ 140737488351232) (hi : i ≤ s.size + 1) :
    Calls Try.prog 67 #[.string s, .int .i64 i] w fun e w' => RMsgOut s i e w' ∧ Below w.heap.size w w' := by
  obtain ⟨i0, hinf, hz0, hz1, hz2⟩ := info_parts Try.infoRSig
  have HINF := hide hinf
  have HZ0 := hide hz0
  have HZ1 := hide hz1
  have HZ2 := hide hz2
  clear hinf hz0 hz1 hz2
  go_enter Try.func67, Try.ntmps67
  go_wp2
  go_loop [7, 8] (fun r _ => ∃ k : Nat, k ≤ 4 ∧ r = .int .i64 k ∧ ∀ j, j < k → (!headOk s i j) = false) (fun r _ => 4 - (intOf r).toNat)
  case atStart => exact ⟨0, by omega, rfl, by intro j hj; omega⟩
  case round =>
    obtain ⟨k, hk, rfl, hno⟩ := hrel
    have HN := hide hno
    clear hno
    by_cases hlt : k < 4
    · by_cases h2 : i + k < s.size
      · have e := bt_of h2
        cases hb : headB k (bt s (i + k)) with
        | false =>
          have hv : headB k (s[i + k].toNat : Int) = false := by rw [e]; exact hb
          have HK := hide (show (!headOk s i k) = true by simp [headOk, hb])
          clear e hb
          go_wp2_with (go_at_call 91; refine (rHeaded_any _ _ _ (by omega) (by omega)).mono ?_; rintro e w' ⟨rfl, rfl⟩)
          have hN : nHead s i = k := firstIx_is (unhide HN) hlt (unhide HK)
          exact bodyPost_ret (v := .tuple #[.agg #[.string { data := #[] }, .int .i64 0, .slice none 0 0, .int .i64 0], .int .i64 (i + k), .bool false]) (by simp [results, Try.results67, go_sem]) rfl ⟨RMsgOut_bad (p := i + k) (by rw [pMsg, hN, if_pos hlt]) (by simp), (Below.refl _ _).alloc (Nat.le_refl _) _⟩
        | true =>
          have hv : headB k (s[i + k].toNat : Int) = true := by rw [e]; exact hb
          have HK := hide (show (!headOk s i k) = false by simp [headOk, hb, h2])
          clear e hb
          go_wp2_with (go_at_call 91; refine (rHeaded_any _ _ _ (by omega) (by omega)).mono ?_; rintro e w' ⟨rfl, rfl⟩)
          go_round
          case rel => exact ⟨k + 1, by omega, by go_num, fun j hj => by
            by_cases e : j = k
            · subst e; exact unhide HK
            · exact unhide HN j (by omega)⟩
          case measure => simp [intOf]; omega
      · have HK := hide (show (!headOk s i k) = true by simp [headOk, h2])
        go_wp2
        have hN : nHead s i = k := firstIx_is (unhide HN) hlt (unhide HK)
        exact bodyPost_ret (v := .tuple #[.agg #[.string { data := #[] }, .int .i64 0, .slice none 0 0, .int .i64 0], .int .i64 (i + k), .bool false]) (by simp [results, Try.results67, go_sem]) rfl ⟨RMsgOut_bad (p := i + k) (by rw [pMsg, hN, if_pos hlt]) (by simp), (Below.refl _ _).alloc (Nat.le_refl _) _⟩
    · have hk4 : k = 4 := by omega
      subst hk4
      have hn : ¬ nHead s i < 4 := by rw [nHead, firstIx_none (unhide HN)]; omega
      have hall := nHead_full hn
      have h3 := (hall 3 (by omega)).1
      have h3b := (hall 3 (by omega)).2
      rw [← bt_of h3] at h3b
      simp [headB] at h3b
      obtain ⟨h3c, h3d⟩ := h3b
      have y0 : (0 : Int) ≤ (i : Int) := by omega
      have y3 : (0 : Int) ≤ (i : Int) + 3 := by omega
      have z3 : (i : Int) + 3 < (s.size : Int) := by omega
      have z4 : (i : Int) + 3 ≤ (s.size : Int) := by omega
      have x3 : IntKind.i64.wrap ((i : Int) + 3) = (i : Int) + 3 := by rw [IntKind.wrap_i64]; omega
      have hu : IntKind.u8.wrap ((s[i + 3].toNat : Int) - 48) = (s[i + 3].toNat : Int) - 48 := by rw [IntKind.wrap_u8]; omega
      obtain ⟨sz, HSZ⟩ : ∃ z : Int, Hid (z = (s[i + 3].toNat : Int) - 48) := ⟨_, hide rfl⟩
      have hv : IntKind.i64.wrap ((s[i + 3].toNat : Int) - 48) = sz := by rw [unhide HSZ, IntKind.wrap_i64]; omega
      have z5 : (i : Int) ≤ (i : Int) + 3 := by omega
      have z6 : ((i : Int) + 3).toNat = i + 3 := by omega
      have HNH := hide hn
      have HALL := hide hall
      clear hn hall
      go_wp2
      refine wp_region_noPanic ?_
      refine wp_region_held_drew (S := fun _ => True) (by kernel_rfl) trivial (fun hHeld => ?_)
      refine wpAnyH_take (i := 0) (v := ?_) (at_list rfl) (by kernel_rfl) (by kernel_rfl) (by kernel_rfl) (fun _ _ _ h => h) (Or.inl ⟨by rfl, ?_⟩) (by assumption) ?_
      rotate_left
      · intro w hSw; (try dsimp only at hSw); first | (go_simp; done) | (go_simp; with_reducible rfl)
      try simp only [Act.put]
      try simp only [List.setIfInBounds_toArray]
      try simp only [List.set_cons_succ]
      try simp only [List.set_cons_zero]
      refine wpAnyH_take (i := 1) (v := ?_) (at_list rfl) (by kernel_rfl) (by kernel_rfl) (by kernel_rfl) (fun _ _ _ h => h) (Or.inl ⟨by rfl, ?_⟩) (by assumption) ?_
      rotate_left
      · intro w hSw; (try dsimp only at hSw); first | (go_simp; done) | (go_simp; with_reducible rfl)
      try simp only [Act.put]
      try simp only [List.setIfInBounds_toArray]
      try simp only [List.set_cons_succ]
      try simp only [List.set_cons_zero]
      refine wpAnyH_take (i := 2) (v := ?_) (at_list rfl) (by kernel_rfl) (by kernel_rfl) (by kernel_rfl) (fun _ _ _ h => h) (Or.inl ⟨by rfl, ?_⟩) (by assumption) ?_
      rotate_left
      · intro w hSw; (try dsimp only at hSw); first | (go_simp; done) | (go_simp; with_reducible rfl)
      try simp only [Act.put]
      try simp only [List.setIfInBounds_toArray]
      try simp only [List.set_cons_succ]
      try simp only [List.set_cons_zero]
      refine wpAnyH_take (i := 3) (v := ?_) (at_list rfl) (by kernel_rfl) (by kernel_rfl) (by kernel_rfl) (fun _ _ _ h => h) (Or.inl ⟨by rfl, ?_⟩) (by assumption) ?_
      rotate_left
      · intro w hSw; (try dsimp only at hSw); first | (go_simp; done) | (go_simp; with_reducible rfl)
      try simp only [Act.put]
      try simp only [List.setIfInBounds_toArray]
      try simp only [List.set_cons_succ]
      try simp only [List.set_cons_zero]
      refine wpAnyH_take (i := 4) (v := ?_) (at_list rfl) (by kernel_rfl) (by kernel_rfl) (by kernel_rfl) (fun _ _ _ h => h) (Or.inl ⟨by rfl, ?_⟩) (by assumption) ?_
      rotate_left
      · intro w hSw; (try dsimp only at hSw); first | (go_simp; done) | (go_simp; with_reducible rfl)
      try simp only [Act.put]
      try simp only [List.setIfInBounds_toArray]
      try simp only [List.set_cons_succ]
      try simp only [List.set_cons_zero]
      refine wpAnyH_take (i := 5) (v := ?_) (at_list rfl) (by kernel_rfl) (by kernel_rfl) (by kernel_rfl) (fun _ _ _ h => h) (Or.inl ⟨by rfl, ?_⟩) (by assumption) ?_
      rotate_left
      · intro w hSw; (try dsimp only at hSw); first | (go_simp; done) | (go_simp; with_reducible rfl)
      try simp only [Act.put]
      try simp only [List.setIfInBounds_toArray]
      try simp only [List.set_cons_succ]
      try simp only [List.set_cons_zero]
      refine wpAnyH_take (i := 6) (v := ?_) (at_list rfl) (by kernel_rfl) (by kernel_rfl) (by kernel_rfl) (fun _ _ _ h => h) (Or.inl ⟨by rfl, ?_⟩) (by assumption) ?_
      rotate_left
      · intro w hSw; (try dsimp only at hSw); first | (go_simp; done) | (go_simp; with_reducible rfl)
      try simp only [Act.put]
      try simp only [List.setIfInBounds_toArray]
      try simp only [List.set_cons_succ]
      try simp only [List.set_cons_zero]
      refine wpAnyH_take (i := 7) (v := ?_) (at_list rfl) (by kernel_rfl) (by kernel_rfl) (by kernel_rfl) (fun _ _ _ h => h) (Or.inl ⟨by rfl, ?_⟩) (by assumption) ?_
      rotate_left
      · intro w hSw; (try dsimp only at hSw); first | (go_simp; done) | (go_simp; with_reducible rfl)
      try simp only [Act.put]
      try simp only [List.setIfInBounds_toArray]
      try simp only [List.set_cons_succ]
      try simp only [List.set_cons_zero]
      refine wpAnyH_take (i := 8) (v := ?_) (at_list rfl) (by kernel_rfl) (by kernel_rfl) (by kernel_rfl) (fun _ _ _ h => h) (Or.inl ⟨by rfl, ?_⟩) (by assumption) ?_
      rotate_left
      · intro w hSw; (try dsimp only at hSw); first | (go_simp; done) | (go_simp; with_reducible rfl)
      try simp only [Act.put]
      try simp only [List.setIfInBounds_toArray]
      try simp only [List.set_cons_succ]
      try simp only [List.set_cons_zero]
      refine wpAnyH_take (i := 9) (v := ?_) (at_list rfl) (by kernel_rfl) (by kernel_rfl) (by kernel_rfl) (fun _ _ _ h => h) (Or.inl ⟨by rfl, ?_⟩) (by assumption) ?_
      rotate_left
      · intro w hSw; (try dsimp only at hSw); first | (go_simp; done) | (go_simp; with_reducible rfl)
      try simp only [Act.put]
      try simp only [List.setIfInBounds_toArray]
      try simp only [List.set_cons_succ]
      try simp only [List.set_cons_zero]
      refine wpAnyH_take (i := 10) (v := ?_) (at_list rfl) (by kernel_rfl) (by kernel_rfl) (by kernel_rfl) (fun _ _ _ h => h) (Or.inl ⟨by rfl, ?_⟩) (by assumption) ?_
      rotate_left
      · intro w hSw; (try dsimp only at hSw); first | (go_simp; done) | (go_simp; with_reducible rfl)
      try simp only [Act.put]
      try simp only [List.setIfInBounds_toArray]
      try simp only [List.set_cons_succ]
      try simp only [List.set_cons_zero]
      refine wpAnyH_take (i := 11) (v := ?_) (at_list rfl) (by kernel_rfl) (by kernel_rfl) (by kernel_rfl) (fun _ _ _ h => h) (Or.inl ⟨by rfl, ?_⟩) (by assumption) ?_
      rotate_left
      · intro w hSw; (try dsimp only at hSw); first | (go_simp; done) | (go_simp; with_reducible rfl)
      try simp only [Act.put]
      try simp only [List.setIfInBounds_toArray]
      try simp only [List.set_cons_succ]
      try simp only [List.set_cons_zero]
      refine wpAnyH_take (i := 12) (v := ?_) (at_list rfl) (by kernel_rfl) (by kernel_rfl) (by kernel_rfl) (fun _ _ _ h => h) (Or.inl ⟨by rfl, ?_⟩) (by assumption) ?_
      rotate_left
      · intro w hSw; (try dsimp only at hSw); first | (go_simp; done) | (go_simp; with_reducible rfl)
      try simp only [Act.put]
      try simp only [List.setIfInBounds_toArray]
      try simp only [List.set_cons_succ]
      try simp only [List.set_cons_zero]
      refine wpAnyH_ready (rs := [13]) (by kernel_rfl) (by simp) ?_
      refine AllReadyH.cons (at_list rfl) (fun K hK => ?_) AllReadyH.nil
      go_simp
      refine hK.out _ _ (trivial) (fun hHeld => ?_)
      clear hK K
      try simp only [Act.put]
      try simp only [List.setIfInBounds_toArray]
      try simp only [List.set_cons_succ]
      try simp only [List.set_cons_zero]
      refine wpAnyH_ready (rs := [14]) (by kernel_rfl) (by simp) ?_
      refine AllReadyH.cons (at_list rfl) (fun K hK => ?_) AllReadyH.nil
      go_simp
      refine hK.out _ _ (trivial) (fun hHeld => ?_)
      clear hK K
      try simp only [Act.put]
      try simp only [List.setIfInBounds_toArray]
      try simp only [List.set_cons_succ]
      try simp only [List.set_cons_zero]
      refine wpAnyH_done (by kernel_rfl) ?_ _
      refine NoPanic.normal ?_
      clear x3 hu hv z5
      go_wp2
      go_loopw [1, 10, 11, 12] (fun a _ _ _ wr => ∃ (p : Nat) (acc : List Sg) (sv : Value), a = .int .i64 p ∧ p ≤ s.size ∧ acc.length ≤ 8 ∧ wr.heap[w.heap.size]? = some (.cells #[.string { data := #[] }, .int .i64 0, .slice none 0 0, .int .i64 0] 45 (0, 0)) ∧
          wr.heap[w.heap.size + 1]? = some (.cells #[.string (s.extract i (i + 3)), .int .i64 sz, sv, .int .i64 i] 45 (0, 0)) ∧ wr.ownsRow (w.heap.size + 2) 71 7 sv acc.length (acc.flatMap Sg.rcells) ∧
          Below w.heap.size w wr ∧ glue acc (pSigs s (8 - acc.length) p) = pSigs s 8 (i + 4)) (fun a _ _ _ _ => s.size + 10 - (intOf a).toNat)
      case atStart => exact ⟨i + 4, [], .slice none 0 0, by simp, by omega, by simp, by exact blk_alloc (blk_new _ _), by exact new_two _ _ _, World.ownsRow_nil _ _ _ _, (((Below.refl _ _).alloc (Nat.le_refl _) _).alloc (by simp) _).drew, glue_nil _⟩
      case round =>
        obtain ⟨p, acc, sv, rfl, hp, hacc, hB0, hB1, hown, hbel, hgl⟩ := hrel
        obtain ⟨sa, cap, rfl⟩ := ownsRow_form hown
        have HB0 := hide hB0
        have HB1 := hide hB1
        have HOWN := hide hown
        have HBEL := hide hbel
        have HGL := hide hgl
        clear hB0 hB1 hown hbel hgl
        have hc3 : wr.cell? ⟨w.heap.size + 1, 2, none⟩ = some (.slice sa acc.length cap) := blk_cell (unhide HB1) 2
        by_cases hgo : acc.length < 8 ∧ p < s.size ∧ bt s p = 44
        · obtain ⟨ha8, hps, h44⟩ := hgo
          have e44 : ((s[p].toNat : Int) == 44) = true := by rw [bt_of hps, h44]; rfl
          have H44 := hide h44
          clear h44
          by_cases hns : nSig s p < 9
          · obtain ⟨n9, HN9⟩ : ∃ n, Hid (n = nSig s p) := ⟨_, hide rfl⟩
            have hns' : (n9 : Int) < 9 := by rw [← unhide HN9] at hns; omega
            have HFIN := hide (show pMsg s i = .inl (p + n9) by rw [pMsg_sigs (unhide HNH), ← unhide HGL, glue_bad (by omega) ⟨hps, unhide H44⟩ hns, unhide HN9])
            have HSO := hide (rSigOut_no (unhide HN9) hns)
            clear hns
            go_wp2_with fail
            refine (rSignal_any s p _ hs (by omega)).mono ?_
            rintro e w2 ⟨rfl, hb2⟩
            rw [unhide HSO]
            have HB0' := hide (blk_below (unhide HB0) hb2)
            have HBEL' := hide ((unhide HBEL).trans (hb2.mono (unhide HBEL).size))
            clear hb2 hc3
            have f0 : w2.frozen? ⟨w.heap.size, 0, none⟩ = false := blk_free (unhide HB0') 0
            have f1 : w2.frozen? ⟨w.heap.size, 1, none⟩ = false := blk_free (unhide HB0') 1
            have f2 : w2.frozen? ⟨w.heap.size, 2, none⟩ = false := blk_free (unhide HB0') 2
            have f3 : w2.frozen? ⟨w.heap.size, 3, none⟩ = false := blk_free (unhide HB0') 3
            have b0 : w2.cell? ⟨w.heap.size, 0, none⟩ = some (.string { data := #[] }) := blk_cell (unhide HB0') 0
            have b1 : w2.cell? ⟨w.heap.size, 1, none⟩ = some (.int .i64 0) := blk_cell (unhide HB0') 1
            have b2 : w2.cell? ⟨w.heap.size, 2, none⟩ = some (.slice none 0 0) := blk_cell (unhide HB0') 2
            have b3 : w2.cell? ⟨w.heap.size, 3, none⟩ = some (.int .i64 0) := blk_cell (unhide HB0') 3
            have hlt1 : w.heap.size < w2.heap.size := blk_lt (unhide HB0')
            go_wp2
            exact bodyPost_ret (v := .tuple #[.agg #[.string { data := #[] }, .int .i64 0, .slice none 0 0, .int .i64 0], .int .i64 (p + n9), .bool false]) (by simp [results, Try.results67, go_sem, b0, b1, b2, b3, hlt1]) rfl ⟨RMsgOut_bad (unhide HFIN) (by simp), (set4_below (unhide HBEL') _ _ _ _).alloc (set4_below (unhide HBEL') _ _ _ _).size _⟩
          · have HNS := hide hns
            have h8 := (nSig_full hns 8 (by omega)).1
            clear hns
            go_wp2_with fail
            refine (rSignal_any s p _ hs (by omega)).mono ?_
            rintro e w2 ⟨rfl, hb2⟩
            rw [rSigOut_yes (unhide HNS)]
            have HB0' := hide (blk_below (unhide HB0) hb2)
            have HB1' := hide (blk_below (unhide HB1) hb2)
            have HOWN' := hide (ownsRow_bel (unhide HOWN) hb2)
            have HBEL' := hide ((unhide HBEL).trans (hb2.mono (unhide HBEL).size))
            clear hc3 hb2
            have hc3 : w2.cell? ⟨w.heap.size + 1, 2, none⟩ = some (.slice sa acc.length cap) := blk_cell (unhide HB1') 2
            have hlt1 : w.heap.size + 1 < w2.heap.size := blk_lt (unhide HB1')
            have hf3 : w2.frozen? ⟨w.heap.size + 1, 2, none⟩ = false := blk_free (unhide HB1') 2
            go_wp2_with (at_builtin; refine wpList_append_own _ rfl _ _ 43 rfl (w.heap.size + 2) 71 i0 _ 7 40 Try.underlying43 (unhide HINF) (unhide HZ0) (unhide HZ1) (unhide HZ2) rfl (by decide) _ _ _ rfl (((unhide HOWN').alloc _).alloc _) ⟨w2.heap.size + 1, 0, none⟩ 1 1 (mkSig s p).rcells rfl rfl ?c1 ?c2 ?c3 ?c4 ?c5 ?_)
            case c1 => exact new_cells (new_two _ _ _)
            case c2 => simp [Sg.rcells, Value.oneCell']
            case c3 => unfold maxLen; omega
            case c4 => omega
            case c5 => simp; omega
            intro v3 w3 hown3 hgrow _
            obtain ⟨a3, cap3, rfl⟩ := ownsRow_form hown3
            have hne : ∀ b, b < w.heap.size + 2 → some b ≠ (Value.slice sa acc.length cap).ownBlock := by
              intro b hb e
              have := (unhide HOWN').lt b e.symm
              omega
            have HB0'' := hide (blk_grown (blk_alloc (blk_alloc (unhide HB0'))) hgrow (hne _ (by omega)))
            have HB1'' := hide (blk_grown (blk_alloc (blk_alloc (unhide HB1'))) hgrow (hne _ (by omega)))
            have HBEL'' := hide (Below.grown (((unhide HBEL').alloc (by have := (unhide HBEL').size; omega) _).alloc (by have := (unhide HBEL').size; simp; omega) _) hgrow (by have := (unhide HBEL').size; simp; omega) (fun k hk => by have := (unhide HOWN').lt k hk; omega))
            have HOWN3 := hide hown3
            clear hown3 hgrow hne hc3 hf3 hlt1
            have hc3 : w3.cell? ⟨w.heap.size + 1, 2, none⟩ = some (.slice sa acc.length cap) := blk_cell (unhide HB1'') 2
            have hf3 : w3.frozen? ⟨w.heap.size + 1, 2, none⟩ = false := blk_free (unhide HB1'') 2
            go_wp2
            go_roundw
            case rel =>
              refine ⟨p + 9, acc ++ [mkSig s p], .slice a3 (acc.length + 1) cap3, by go_num, by omega, by simp; omega, blk_set_other _ (unhide HB0'') (by omega), blk_set (unhide HB1'') 2 _, ?_, (unhide HBEL'').setCell (by simp) _, ?_⟩
              · have := ownsRow_setCell_below (unhide HOWN3) (a := ⟨w.heap.size + 1, 2, none⟩) (by simp) (.slice a3 (acc.length + 1) cap3)
                simpa [List.flatMap_append] using this
              · rw [← unhide HGL, glue_step (by omega) ⟨hps, unhide H44⟩ (unhide HNS), List.length_append]
                congr 2
            case measure => simp [intOf]; omega
        · have hend : glue acc (pSigs s (8 - acc.length) p) = .inr (acc, p) := glue_stop (by
            by_cases h1 : acc.length < 8
            · exact .inr (fun h => hgo ⟨h1, h⟩)
            · exact .inl (by omega))
          have hfin : pMsg s i = .inr (mkMsg s i acc, p) := by rw [pMsg_sigs (unhide HNH), ← unhide HGL, hend]
          have HFIN := hide hfin
          clear hend hfin
          have hz : sz = bt s (i + 3) - 48 := by
            rw [unhide HSZ, bt_of h3]
          have HZ := hide hz
          clear hz
          have hways : ((s.size : Int) ≤ (p : Int)) ∨ (p < s.size ∧ bt s p ≠ 44) ∨ (p < s.size ∧ bt s p = 44 ∧ (8 : Int) ≤ (acc.length : Int)) := by
            by_cases h2 : p < s.size
            · by_cases h1 : bt s p = 44
              · exact .inr (.inr ⟨h2, h1, by rcases Nat.lt_or_ge acc.length 8 with h | h; exact absurd ⟨h, h2, h1⟩ hgo; omega⟩)
              · exact .inr (.inl ⟨h2, h1⟩)
            · exact .inl (by omega)
          clear hgo
          have d0 : wr.cell? ⟨w.heap.size + 1, 0, none⟩ = some (.string (s.extract i (i + 3))) := blk_cell (unhide HB1) 0
          have d1 : wr.cell? ⟨w.heap.size + 1, 1, none⟩ = some (.int .i64 sz) := blk_cell (unhide HB1) 1
          have d3 : wr.cell? ⟨w.heap.size + 1, 3, none⟩ = some (.int .i64 i) := blk_cell (unhide HB1) 3
          have f0 : wr.frozen? ⟨w.heap.size, 0, none⟩ = false := blk_free (unhide HB0) 0
          have f1 : wr.frozen? ⟨w.heap.size, 1, none⟩ = false := blk_free (unhide HB0) 1
          have f2 : wr.frozen? ⟨w.heap.size, 2, none⟩ = false := blk_free (unhide HB0) 2
          have f3 : wr.frozen? ⟨w.heap.size, 3, none⟩ = false := blk_free (unhide HB0) 3
          have b0 : wr.cell? ⟨w.heap.size, 0, none⟩ = some (.string { data := #[] }) := blk_cell (unhide HB0) 0
          have b1 : wr.cell? ⟨w.heap.size, 1, none⟩ = some (.int .i64 0) := blk_cell (unhide HB0) 1
          have b2 : wr.cell? ⟨w.heap.size, 2, none⟩ = some (.slice none 0 0) := blk_cell (unhide HB0) 2
          have b3 : wr.cell? ⟨w.heap.size, 3, none⟩ = some (.int .i64 0) := blk_cell (unhide HB0) 3
          rcases hways with hq | ⟨hq, hq2⟩ | ⟨hq, hq2, hq3⟩
          · go_wp2
            exact bodyPost_ret (v := .tuple #[.agg #[.string (s.extract i (i + 3)), .int .i64 sz, .slice sa acc.length cap, .int .i64 i], .int .i64 p, .bool true]) (by simp [results, Try.results67, go_sem, b0, b1, b2, b3]) rfl ⟨RMsgOut_good (unhide HFIN) (unhide HZ) (set4_owns (unhide HOWN) _ _ _ _), set4_below (unhide HBEL) _ _ _ _⟩
          · have hq4 : ((s[p].toNat : Int) == 44) = false := by rw [bt_of hq]; simpa using hq2
            clear hq2
            go_wp2
            exact bodyPost_ret (v := .tuple #[.agg #[.string (s.extract i (i + 3)), .int .i64 sz, .slice sa acc.length cap, .int .i64 i], .int .i64 p, .bool true]) (by simp [results, Try.results67, go_sem, b0, b1, b2, b3]) rfl ⟨RMsgOut_good (unhide HFIN) (unhide HZ) (set4_owns (unhide HOWN) _ _ _ _), set4_below (unhide HBEL) _ _ _ _⟩
          · have hq4 : ((s[p].toNat : Int) == 44) = true := by rw [bt_of hq, hq2]; rfl
            clear hq2
            go_wp2
            exact bodyPost_ret (v := .tuple #[.agg #[.string (s.extract i (i + 3)), .int .i64 sz, .slice sa acc.length cap, .int .i64 i], .int .i64 p, .bool true]) (by simp [results, Try.results67, go_sem, b0, b1, b2, b3]) rfl ⟨RMsgOut_good (unhide HFIN) (unhide HZ) (set4_owns (unhide HOWN) _ _ _ _), set4_below (unhide HBEL) _ _ _ _⟩

end Go.Proofs.Ytoihlnjcgopdlaa

namespace Go.Proofs.Ytoihlnjcgopdlaa
open Go.RowKit

def mgCells (x : Mg × Value) : List Value := [.int .i64 x.1.pl, .int .i64 (idNum x.1.id), .int .i64 x.1.sz, x.2]
def rmgCells (x : Mg × Value) : List Value := [.string x.1.id, .int .i64 x.1.sz, x.2, .int .i64 x.1.pl]
/-- The slice value v reads as the messages P, each beside the slice of its signals (the program's; the document's). -/
def MsgsAt (B : Nat) (w : World) (v : Value) (P : List (Mg × Value)) : Prop := w.ownsRow B 74 4 v P.length (P.flatMap mgCells) ∧ ∀ x ∈ P, SigsAt w x.2 x.1.sigs
def RMsgsAt (B : Nat) (w : World) (v : Value) (P : List (Mg × Value)) : Prop := w.ownsRow B 45 4 v P.length (P.flatMap rmgCells) ∧ ∀ x ∈ P, RSigsAt w x.2 x.1.sigs

theorem MsgsAt.below {B : Nat} {w w' : World} {v : Value} {P : List (Mg × Value)} (h : MsgsAt B w v P) (hb : Below w.heap.size w w') : MsgsAt B w' v P :=
  ⟨ownsRow_bel h.1 hb, fun x hx => ownsRow_below (h.2 x hx) hb⟩
theorem RMsgsAt.below {B : Nat} {w w' : World} {v : Value} {P : List (Mg × Value)} (h : RMsgsAt B w v P) (hb : Below w.heap.size w w') : RMsgsAt B w' v P :=
  ⟨ownsRow_bel h.1 hb, fun x hx => ownsRow_below (h.2 x hx) hb⟩

theorem ownsRow_block {w : World} {B e s : Nat} {v : Value} {n : Nat} {xs : List Value} (h : w.ownsRow B e s v n xs) : ∀ k, v.ownBlock = some k → ∃ cur, w.heap[k]? = some (.cells cur e (0, 0)) := by
  intro k hk
  rcases h.2 with ⟨rfl, _⟩ | ⟨g, cap, cur, rfl, _, hg, _⟩
  · simp [Value.ownBlock] at hk
  · simp [Value.ownBlock] at hk; subst hk; exact ⟨cur, hg⟩

/-- A row of one element type stays while a row of another is appended to. -/
theorem ownsRow_grown {w w' : World} {e e' s : Nat} {v : Value} {n : Nat} {xs : List Value} {row : Option Nat} (h : w.ownsRow 0 e s v n xs) (hg : w.grownBy w' row)
    (hrow : ∀ k, row = some k → ∃ cur, w.heap[k]? = some (.cells cur e' (0, 0))) (hne : e ≠ e') : w'.ownsRow 0 e s v n xs := by
  refine h.kept hg ?_
  cases hv : v.ownBlock with
  | none => exact .inl rfl
  | some k =>
    refine .inr (fun he => ?_)
    obtain ⟨cur, h1⟩ := hrow k he.symm
    obtain ⟨cur', h2⟩ := ownsRow_block h k hv
    rw [h1] at h2
    simp at h2
    exact hne h2.2.symm

theorem Try.infoMsg : (Try.prog.info? 74).map (fun i => (i.zero, i.size, i.bytes)) = some (some (.agg #[.int .i64 0, .int .i64 0, .int .i64 0, .slice none 0 0]), 4, 48) := by kernel_rfl
theorem Try.infoRMsg : (Try.prog.info? 45).map (fun i => (i.zero, i.size, i.bytes)) = some (some (.agg #[.string { data := #[] }, .int .i64 0, .slice none 0 0, .int .i64 0]), 4, 56) := by kernel_rfl

theorem glueM_fail {s : ByteArray} {acc : List Mg} {f p q : Nat} (hf : 0 < f) (h : pMsg s p = .inl q) : glueM acc (pDb s f p) = .inl q := by
  obtain ⟨f, rfl⟩ : ∃ k, f = k + 1 := ⟨f - 1, by omega⟩
  rw [pDb, h]; rfl
theorem glueM_end {s : ByteArray} {acc : List Mg} {f p e : Nat} {m : Mg} (hf : 0 < f) (h : pMsg s p = .inr (m, e)) (he : s.size ≤ e) : glueM acc (pDb s f p) = .inr (acc ++ [m]) := by
  obtain ⟨f, rfl⟩ : ∃ k, f = k + 1 := ⟨f - 1, by omega⟩
  rw [pDb, h]; simp only [if_pos he]; rfl
theorem glueM_semi {s : ByteArray} {acc : List Mg} {f p e : Nat} {m : Mg} (hf : 0 < f) (h : pMsg s p = .inr (m, e)) (he : ¬ s.size ≤ e) (h59 : bt s e ≠ 59) : glueM acc (pDb s f p) = .inl e := by
  obtain ⟨f, rfl⟩ : ∃ k, f = k + 1 := ⟨f - 1, by omega⟩
  rw [pDb, h]; simp only [if_neg he, if_neg h59]; rfl
theorem glueM_next {s : ByteArray} {acc : List Mg} {f p e : Nat} {m : Mg} (hf : 0 < f) (h : pMsg s p = .inr (m, e)) (he : ¬ s.size ≤ e) (h59 : bt s e = 59) : glueM acc (pDb s f p) = glueM (acc ++ [m]) (pDb s (f - 1) (e + 1)) := by
  obtain ⟨f, rfl⟩ : ∃ k, f = k + 1 := ⟨f - 1, by omega⟩
  rw [pDb, h]; simp only [if_neg he, if_pos h59, Nat.add_sub_cancel]
  rcases pDb s f (e + 1) with q | l <;> simp [glueM]
theorem glueM_nil (x : Nat ⊕ List Mg) : glueM [] x = x := by rcases x with p | l <;> rfl

def DbOut (s : ByteArray) (e : Ending) (w' : World) : Prop :=
  match pDb s 4 0 with
  | .inl p => e = .returned (.tuple #[.slice none 0 0, .bool false, .int .i64 p])
  | .inr M => ∃ v P q, P.map Prod.fst = M ∧ e = .returned (.tuple #[v, .bool true, .int .i64 q]) ∧ MsgsAt 0 w' v P ∧ P.length ≤ 4 ∧ ∀ x ∈ P, x.1.Ok

theorem DbOut_bad {s : ByteArray} {p : Nat} {w' : World} {q : Int} (h : pDb s 4 0 = .inl p) (hq : q = p) : DbOut s (.returned (.tuple #[.slice none 0 0, .bool false, .int .i64 q])) w' := by
  unfold DbOut; rw [h, hq]
theorem DbOut_good {s : ByteArray} {w' : World} {v : Value} {P : List (Mg × Value)} {q : Int} (h : pDb s 4 0 = .inr (P.map Prod.fst)) (hm : MsgsAt 0 w' v P) (hl : P.length ≤ 4) (hok : ∀ x ∈ P, x.1.Ok) : DbOut s (.returned (.tuple #[v, .bool true, .int .i64 q])) w' := by
  unfold DbOut; rw [h]; exact ⟨v, P, q, rfl, rfl, hm, hl, hok⟩

theorem msgs_push {B : Nat} {w1 w3 : World} {v v3 sv : Value} {P : List (Mg × Value)} {m : Mg} {o1 o2 : Obj} (hm : MsgsAt B w1 v P) (hsv : SigsAt w1 sv m.sigs)
    (hg : ((w1.alloc o1).alloc o2).grownBy w3 v.ownBlock) (ho : w3.ownsRow B 74 4 v3 (P.length + 1) (P.flatMap mgCells ++ mgCells (m, sv))) : MsgsAt B w3 v3 (P ++ [(m, sv)]) := by
  have hblk := ownsRow_block ((hm.1.alloc o1).alloc o2)
  have keep : ∀ (u : Value) (L : List Sg), SigsAt w1 u L → SigsAt w3 u L := fun u L h =>
    ownsRow_grown (e' := 74) ((World.ownsRow.alloc h o1).alloc o2) hg hblk (by decide)
  refine ⟨by simpa [List.flatMap_append] using ho, fun x hx => ?_⟩
  rcases List.mem_append.1 hx with hx | hx
  · exact keep _ _ (hm.2 x hx)
  · simp at hx; subst hx; exact keep _ _ hsv
theorem rmsgs_push {B : Nat} {w1 w3 : World} {v v3 sv : Value} {P : List (Mg × Value)} {m : Mg} {o1 o2 : Obj} (hm : RMsgsAt B w1 v P) (hsv : RSigsAt w1 sv m.sigs)
    (hg : ((w1.alloc o1).alloc o2).grownBy w3 v.ownBlock) (ho : w3.ownsRow B 45 4 v3 (P.length + 1) (P.flatMap rmgCells ++ rmgCells (m, sv))) : RMsgsAt B w3 v3 (P ++ [(m, sv)]) := by
  have hblk := ownsRow_block ((hm.1.alloc o1).alloc o2)
  have keep : ∀ (u : Value) (L : List Sg), RSigsAt w1 u L → RSigsAt w3 u L := fun u L h =>
    ownsRow_grown (e' := 45) ((World.ownsRow.alloc h o1).alloc o2) hg hblk (by decide)
  refine ⟨by simpa [List.flatMap_append] using ho, fun x hx => ?_⟩
  rcases List.mem_append.1 hx with hx | hx
  · exact keep _ _ (hm.2 x hx)
  · simp at hx; subst hx; exact keep _ _ hsv
theorem MsgsAt.base {B : Nat} {w : World} {v : Value} {P : List (Mg × Value)} (h : MsgsAt B w v P) : MsgsAt 0 w v P := ⟨ownsRow_base h.1, h.2⟩
theorem RMsgsAt.base {B : Nat} {w : World} {v : Value} {P : List (Mg × Value)} (h : RMsgsAt B w v P) : RMsgsAt 0 w v P := ⟨ownsRow_base h.1, h.2⟩
theorem ok_push {P : List (Mg × Value)} {m : Mg} {sv : Value} (h : ∀ x ∈ P, x.1.Ok) (hm : m.Ok) : ∀ x ∈ P ++ [(m, sv)], x.1.Ok := by
  intro x hx
  rcases List.mem_append.1 hx with hx | hx
  · exact h x hx
  · simp at hx; subst hx; exact hm

set_option maxRecDepth 100000 in
set_option maxHeartbeats 2000000 in
theorem readDatabase_any (s : ByteArray) (w : World) (hs : s.size ≤ 320) :
    Calls Try.prog 65 #[.string s] w fun e w' => DbOut s e w' ∧ Below w.heap.size w w' := by
  obtain ⟨i0, hinf, hz0, hz1, hz2⟩ := info_parts Try.infoMsg
  have HINF := hide hinf
  have HZ0 := hide hz0
  have HZ1 := hide hz1
  have HZ2 := hide hz2
  clear hinf hz0 hz1 hz2
  go_enter Try.func65, Try.ntmps65
  go_wp2
  go_loopw [5, 6, 7, 8, 9] (fun v a _ _ _ wr => ∃ (p : Nat) (P : List (Mg × Value)), a = .int .i64 p ∧ p ≤ s.size + 1 ∧ P.length ≤ 4 ∧ (4 ≤ P.length → 1 ≤ p) ∧ MsgsAt w.heap.size wr v P ∧ (∀ x ∈ P, x.1.Ok) ∧
      Below w.heap.size w wr ∧ glueM (P.map Prod.fst) (pDb s (4 - P.length) p) = pDb s 4 0) (fun _ a _ _ _ _ => s.size + 10 - (intOf a).toNat)
  case atStart =>
    refine ⟨0, [], rfl, by omega, by simp, by simp, ⟨⟨by simp, .inr ⟨w.heap.size, 0, #[], rfl, Nat.le_refl _, blk_new _ _, by simp, by simp [maxLen], by simp, by simp⟩⟩, by simp⟩, by simp, (Below.refl _ _).alloc (Nat.le_refl _) _, glueM_nil _⟩
  case round =>
    obtain ⟨p, P, rfl, hp, hP, hp1, hm, hok, hbel, hgl⟩ := hrel
    obtain ⟨sa, cap, rfl⟩ := ownsRow_form hm.1
    have HM := hide hm
    have HOK := hide hok
    have HBEL := hide hbel
    have HGL := hide hgl
    clear hm hok hbel hgl
    by_cases hlt : P.length < 4
    · go_wp2_with fail
      refine (readMessage_any s p _ hs hp).mono ?_
      rintro e w1 ⟨hout, hb1⟩
      have HBEL1 := hide ((unhide HBEL).trans (hb1.mono (unhide HBEL).size))
      have HM1 := hide ((unhide HM).below hb1)
      clear hb1
      cases hpm : pMsg s p with
      | inl q =>
        rw [MsgOut, hpm] at hout
        dsimp only at hout
        subst hout
        have HFIN := hide (show pDb s 4 0 = .inl q by rw [← unhide HGL, glueM_fail (by omega) hpm])
        clear hpm
        go_wp2
        go_ret3
        exact ⟨DbOut_bad (unhide HFIN) rfl, (unhide HBEL1).alloc (unhide HBEL1).size _⟩
      | inr x =>
        obtain ⟨m, q⟩ := x
        rw [MsgOut, hpm] at hout
        dsimp only at hout
        obtain ⟨sv, rfl, hsv⟩ := hout
        obtain ⟨va, vcap, rfl⟩ := ownsRow_form hsv
        have HSV := hide hsv
        have HPM := hide hpm
        have hmo := pMsg_ok hpm
        have HMO := hide hmo.1
        have hq := hmo.2.2
        clear hsv hpm hmo
        go_wp2_with (at_builtin; refine wpList_append_own _ rfl _ _ 63 rfl w.heap.size 74 i0 _ 4 48 Try.underlying63 (unhide HINF) (unhide HZ0) (unhide HZ1) (unhide HZ2) rfl (by decide) _ _ _ rfl (((unhide HM1).1.alloc _).alloc _) ⟨w1.heap.size + 1, 0, none⟩ 1 1 (mgCells (m, .slice va m.sigs.length vcap)) rfl rfl ?c1 ?c2 ?c3 ?c4 ?c5 ?_)
        case c1 => exact new_cells (new_two _ _ _)
        case c2 => simp [mgCells, Value.oneCell']
        case c3 => unfold maxLen; omega
        case c4 => omega
        case c5 => have := (unhide HBEL1).size; simp; omega
        intro v3 w3 hown3 hgrow _
        obtain ⟨a3, cap3, rfl⟩ := ownsRow_form hown3
        have HM3 := hide (msgs_push (unhide HM1) (unhide HSV) hgrow hown3)
        have HBEL3 := hide (Below.grown (((unhide HBEL1).alloc (unhide HBEL1).size _).alloc (by have := (unhide HBEL1).size; simp; omega) _) hgrow (by have := (unhide HBEL1).size; simp; omega) (fun k hk => ((unhide HM1).1.lt k hk).1))
        clear hown3 hgrow
        by_cases he : s.size ≤ q
        · have HFIN := hide (show pDb s 4 0 = .inr ((P ++ [(m, Value.slice va m.sigs.length vcap)]).map Prod.fst) by rw [← unhide HGL, glueM_end (by omega) (unhide HPM) he]; simp)
          go_wp2
          go_ret3
          exact ⟨DbOut_good (unhide HFIN) (unhide HM3).base (by simp; omega) (ok_push (unhide HOK) (unhide HMO)), unhide HBEL3⟩
        · by_cases h59 : bt s q = 59
          · have e59 : ((s[q].toNat : Int) != 59) = false := by rw [bt_of (by omega), h59]; rfl
            have H59 := hide h59
            clear h59
            go_wp2
            go_roundw
            case rel =>
              refine ⟨q + 1, P ++ [(m, Value.slice va m.sigs.length vcap)], by go_num, by omega, by simp; omega, fun _ => by omega, unhide HM3, ok_push (unhide HOK) (unhide HMO), unhide HBEL3, ?_⟩
              rw [← unhide HGL, glueM_next (by omega) (unhide HPM) he (unhide H59)]
              rw [List.map_append, List.length_append]
              congr 2
            case measure => have := (pMsg_ok (unhide HPM)).2.1; simp [intOf]; omega
          · have e59 : ((s[q].toNat : Int) != 59) = true := by rw [bt_of (by omega)]; simpa using h59
            have HFIN := hide (show pDb s 4 0 = .inl q by rw [← unhide HGL, glueM_semi (by omega) (unhide HPM) he h59])
            clear h59
            go_wp2
            go_ret3
            exact ⟨DbOut_bad (unhide HFIN) rfl, unhide HBEL3⟩
    · have h4 : P.length = 4 := by omega
      have HFIN := hide (show pDb s 4 0 = .inl (p - 1) by rw [← unhide HGL, h4]; rfl)
      have hp2 := hp1 (by omega)
      clear h4
      go_wp2
      go_ret3
      exact ⟨DbOut_bad (unhide HFIN) (by omega), unhide HBEL⟩

end Go.Proofs.Ytoihlnjcgopdlaa

namespace Go.Proofs.Ytoihlnjcgopdlaa
open Go.RowKit

def RDbOut (s : ByteArray) (e : Ending) (w' : World) : Prop :=
  match pDb s 4 0 with
  | .inl p => e = .returned (.tuple #[.slice none 0 0, .int .i64 p, .bool false])
  | .inr M => ∃ v P q, P.map Prod.fst = M ∧ e = .returned (.tuple #[v, .int .i64 q, .bool true]) ∧ RMsgsAt 0 w' v P ∧ P.length ≤ 4 ∧ ∀ x ∈ P, x.1.Ok

theorem RDbOut_bad {s : ByteArray} {p : Nat} {w' : World} {q : Int} (h : pDb s 4 0 = .inl p) (hq : q = p) : RDbOut s (.returned (.tuple #[.slice none 0 0, .int .i64 q, .bool false])) w' := by
  unfold RDbOut; rw [h, hq]
theorem RDbOut_good {s : ByteArray} {w' : World} {v : Value} {P : List (Mg × Value)} {q : Int} (h : pDb s 4 0 = .inr (P.map Prod.fst)) (hm : RMsgsAt 0 w' v P) (hl : P.length ≤ 4) (hok : ∀ x ∈ P, x.1.Ok) : RDbOut s (.returned (.tuple #[v, .int .i64 q, .bool true])) w' := by
  unfold RDbOut; rw [h]; exact ⟨v, P, q, rfl, rfl, hm, hl, hok⟩
theorem glueM_last {s : ByteArray} {acc : List Mg} {p e : Nat} {m : Mg} (h : pMsg s p = .inr (m, e)) (he : ¬ s.size ≤ e) (h59 : bt s e = 59) : glueM acc (pDb s 1 p) = .inl e := by
  rw [glueM_next (by omega) h he h59]; rfl

set_option maxRecDepth 100000 in
set_option maxHeartbeats 2000000 in
theorem rRead_any (s : ByteArray) (w : World) (hs : s.size ≤ 140737488351232) :
    Calls Try.prog 37 #[.string s] w fun e w' => RDbOut s e w' ∧ Below w.heap.size w w' := by
  obtain ⟨i0, hinf, hz0, hz1, hz2⟩ := info_parts Try.infoRMsg
  have HINF := hide hinf
  have HZ0 := hide hz0
  have HZ1 := hide hz1
  have HZ2 := hide hz2
  clear hinf hz0 hz1 hz2
  go_enter Try.func37, Try.ntmps37
  go_wp2
  go_loopw [5, 6, 7, 8, 9, 10] (fun v a n _ _ _ wr => ∃ (p : Nat) (P : List (Mg × Value)), a = .int .i64 p ∧ n = .int .i64 P.length ∧ p ≤ s.size + 1 ∧ P.length < 4 ∧ RMsgsAt w.heap.size wr v P ∧ (∀ x ∈ P, x.1.Ok) ∧
      Below w.heap.size w wr ∧ glueM (P.map Prod.fst) (pDb s (4 - P.length) p) = pDb s 4 0) (fun _ a _ _ _ _ _ => s.size + 10 - (intOf a).toNat)
  case atStart =>
    refine ⟨0, [], rfl, rfl, by omega, by simp, ⟨World.ownsRow_nil _ _ _ _, by simp⟩, by simp, Below.refl _ _, glueM_nil _⟩
  case round =>
    obtain ⟨p, P, rfl, rfl, hp, hlt, hm, hok, hbel, hgl⟩ := hrel
    obtain ⟨sa, cap, rfl⟩ := ownsRow_form hm.1
    have HM := hide hm
    have HOK := hide hok
    have HBEL := hide hbel
    have HGL := hide hgl
    clear hm hok hbel hgl
    go_wp2_with fail
    refine (rMessage_any s p _ hs hp).mono ?_
    rintro e w1 ⟨hout, hb1⟩
    have HBEL1 := hide ((unhide HBEL).trans (hb1.mono (unhide HBEL).size))
    have HM1 := hide ((unhide HM).below hb1)
    clear hb1
    cases hpm : pMsg s p with
    | inl q =>
      rw [RMsgOut, hpm] at hout
      dsimp only at hout
      subst hout
      have HFIN := hide (show pDb s 4 0 = .inl q by rw [← unhide HGL, glueM_fail (by omega) hpm])
      clear hpm
      go_wp2
      go_ret3
      exact ⟨RDbOut_bad (unhide HFIN) rfl, (unhide HBEL1).alloc (unhide HBEL1).size _⟩
    | inr x =>
      obtain ⟨m, q⟩ := x
      rw [RMsgOut, hpm] at hout
      dsimp only at hout
      obtain ⟨sv, rfl, hsv⟩ := hout
      obtain ⟨va, vcap, rfl⟩ := ownsRow_form hsv
      have HSV := hide hsv
      have HPM := hide hpm
      have hmo := pMsg_ok hpm
      have HMO := hide hmo.1
      have hq := hmo.2.2
      clear hsv hpm hmo
      go_wp2_with (at_builtin; refine wpList_append_own _ rfl _ _ 66 rfl w.heap.size 45 i0 _ 4 56 Try.underlying66 (unhide HINF) (unhide HZ0) (unhide HZ1) (unhide HZ2) rfl (by decide) _ _ _ rfl (((unhide HM1).1.alloc _).alloc _) ⟨w1.heap.size + 1, 0, none⟩ 1 1 (rmgCells (m, .slice va m.sigs.length vcap)) rfl rfl ?c1 ?c2 ?c3 ?c4 ?c5 ?_)
      case c1 => exact new_cells (new_two _ _ _)
      case c2 => simp [rmgCells, Value.oneCell']
      case c3 => unfold maxLen; omega
      case c4 => omega
      case c5 => have := (unhide HBEL1).size; simp; omega
      intro v3 w3 hown3 hgrow _
      obtain ⟨a3, cap3, rfl⟩ := ownsRow_form hown3
      have HM3 := hide (rmsgs_push (unhide HM1) (unhide HSV) hgrow hown3)
      have HBEL3 := hide (Below.grown (((unhide HBEL1).alloc (unhide HBEL1).size _).alloc (by have := (unhide HBEL1).size; simp; omega) _) hgrow (by have := (unhide HBEL1).size; simp; omega) (fun k hk => ((unhide HM1).1.lt k hk).1))
      clear hown3 hgrow
      by_cases he : s.size ≤ q
      · have HFIN := hide (show pDb s 4 0 = .inr ((P ++ [(m, Value.slice va m.sigs.length vcap)]).map Prod.fst) by rw [← unhide HGL, glueM_end (by omega) (unhide HPM) he]; simp)
        have eq1 : ((q : Int) == (s.size : Int)) = true := by rw [beq_iff_eq]; omega
        go_wp2
        go_ret3
        exact ⟨RDbOut_good (unhide HFIN) (unhide HM3).base (by simp; omega) (ok_push (unhide HOK) (unhide HMO)), unhide HBEL3⟩
      · have eq1 : ((q : Int) == (s.size : Int)) = false := by rw [beq_eq_false_iff_ne]; omega
        by_cases h59 : bt s q = 59
        · have e59 : ((s[q].toNat : Int) != 59) = false := by rw [bt_of (by omega), h59]; rfl
          have H59 := hide h59
          clear h59
          by_cases h4 : P.length = 3
          · have e4 : ((P.length : Int) + 1 == 4) = true := by rw [h4]; rfl
            have HFIN := hide (show pDb s 4 0 = .inl q by rw [← unhide HGL, h4, glueM_last (unhide HPM) he (unhide H59)])
            clear h4
            go_wp2
            go_ret3
            exact ⟨RDbOut_bad (unhide HFIN) rfl, unhide HBEL3⟩
          · have e4 : ((P.length : Int) + 1 == 4) = false := by rw [beq_eq_false_iff_ne]; omega
            have h4' : P.length < 3 := by omega
            clear h4
            go_wp2
            go_roundw
            case rel =>
              refine ⟨q + 1, P ++ [(m, Value.slice va m.sigs.length vcap)], by go_num, by simp, by omega, by simp; omega, unhide HM3, ok_push (unhide HOK) (unhide HMO), unhide HBEL3, ?_⟩
              rw [← unhide HGL, glueM_next (by omega) (unhide HPM) he (unhide H59)]
              rw [List.map_append, List.length_append]
              congr 2
            case measure => have := (pMsg_ok (unhide HPM)).2.1; simp [intOf]; omega
        · have e59 : ((s[q].toNat : Int) != 59) = true := by rw [bt_of (by omega)]; simpa using h59
          have HFIN := hide (show pDb s 4 0 = .inl q by rw [← unhide HGL, glueM_semi (by omega) (unhide HPM) he h59])
          clear h59
          go_wp2
          go_ret3
          exact ⟨RDbOut_bad (unhide HFIN) rfl, unhide HBEL3⟩

end Go.Proofs.Ytoihlnjcgopdlaa

namespace Go.Proofs.Ytoihlnjcgopdlaa
open Go.RowKit

def noMg : Mg × Value := (⟨0, { data := #[] }, 0, []⟩, .slice none 0 0)
def mgAt (P : List (Mg × Value)) (k : Nat) : Mg × Value := P.getD k noMg
theorem mgAt_mem {P : List (Mg × Value)} {k : Nat} (h : k < P.length) : mgAt P k ∈ P := by
  rw [mgAt, List.getD_eq_getElem?_getD, List.getElem?_eq_getElem h]; exact List.getElem_mem h
theorem mgAt_eq {P : List (Mg × Value)} {k : Nat} (h : k < P.length) : mgAt P k = P[k] := by simp [mgAt, h]

theorem MsgsAt.opened {w : World} {v : Value} {P : List (Mg × Value)} (h : MsgsAt 0 w v P) :
    (P = [] ∧ (∃ a c, v = .slice a 0 c)) ∨ ∃ g cap, v = .slice (some ⟨g, 0, none⟩) P.length cap ∧ g < w.heap.size ∧ P.length ≤ cap ∧ cap ≤ maxLen ∧
      ∀ k j, k < P.length → j < 4 → w.cell? ⟨g, k * 4 + j, none⟩ = (mgCells (mgAt P k))[j]? := by
  have h' := h.1
  obtain ⟨hl, h2⟩ := h.1
  rcases h2 with ⟨rfl, hn⟩ | ⟨g, cap, cur, rfl, _, hg, hnc, hcm, hcs, ht⟩
  · exact .inl ⟨List.eq_nil_of_length_eq_zero hn, _, _, rfl⟩
  · refine .inr ⟨g, cap, rfl, (Array.getElem?_eq_some_iff.1 hg).1, hnc, hcm, fun k j hk hj => ?_⟩
    obtain ⟨g', cap', e1, e2, _⟩ := row_cell h' (k * 4 + j) (by omega)
    cases e1
    rw [e2, flat_get mgCells 4 (fun _ => rfl) P k j hk hj, mgAt_eq hk]
theorem RMsgsAt.opened {w : World} {v : Value} {P : List (Mg × Value)} (h : RMsgsAt 0 w v P) :
    (P = [] ∧ (∃ a c, v = .slice a 0 c)) ∨ ∃ g cap, v = .slice (some ⟨g, 0, none⟩) P.length cap ∧ g < w.heap.size ∧ P.length ≤ cap ∧ cap ≤ maxLen ∧
      ∀ k j, k < P.length → j < 4 → w.cell? ⟨g, k * 4 + j, none⟩ = (rmgCells (mgAt P k))[j]? := by
  have h' := h.1
  obtain ⟨hl, h2⟩ := h.1
  rcases h2 with ⟨rfl, hn⟩ | ⟨g, cap, cur, rfl, _, hg, hnc, hcm, hcs, ht⟩
  · exact .inl ⟨List.eq_nil_of_length_eq_zero hn, _, _, rfl⟩
  · refine .inr ⟨g, cap, rfl, (Array.getElem?_eq_some_iff.1 hg).1, hnc, hcm, fun k j hk hj => ?_⟩
    obtain ⟨g', cap', e1, e2, _⟩ := row_cell h' (k * 4 + j) (by omega)
    cases e1
    rw [e2, flat_get rmgCells 4 (fun _ => rfl) P k j hk hj, mgAt_eq hk]
theorem mcells4 {w wr : World} {g k : Nat} {P : List (Mg × Value)} (hc : ∀ k j, k < P.length → j < 4 → w.cell? ⟨g, k * 4 + j, none⟩ = (mgCells (mgAt P k))[j]?) (hg : g < w.heap.size) (hb : Below w.heap.size w wr) (hk : k < P.length) :
    wr.cell? ⟨g, k * 4, none⟩ = some (.int .i64 (mgAt P k).1.pl) ∧ wr.cell? ⟨g, k * 4 + 1, none⟩ = some (.int .i64 (idNum (mgAt P k).1.id)) ∧ wr.cell? ⟨g, k * 4 + 2, none⟩ = some (.int .i64 (mgAt P k).1.sz) ∧ wr.cell? ⟨g, k * 4 + 3, none⟩ = some (mgAt P k).2 := by
  have h : ∀ j, j < 4 → wr.cell? ⟨g, k * 4 + j, none⟩ = (mgCells (mgAt P k))[j]? := fun j hj => by
    rw [hb.cell (p := ⟨g, k * 4 + j, none⟩) hg]; exact hc k j hk hj
  exact ⟨h 0 (by omega), h 1 (by omega), h 2 (by omega), h 3 (by omega)⟩
theorem rmcells4 {w wr : World} {g k : Nat} {P : List (Mg × Value)} (hc : ∀ k j, k < P.length → j < 4 → w.cell? ⟨g, k * 4 + j, none⟩ = (rmgCells (mgAt P k))[j]?) (hg : g < w.heap.size) (hb : Below w.heap.size w wr) (hk : k < P.length) :
    wr.cell? ⟨g, k * 4, none⟩ = some (.string (mgAt P k).1.id) ∧ wr.cell? ⟨g, k * 4 + 1, none⟩ = some (.int .i64 (mgAt P k).1.sz) ∧ wr.cell? ⟨g, k * 4 + 2, none⟩ = some (mgAt P k).2 ∧ wr.cell? ⟨g, k * 4 + 3, none⟩ = some (.int .i64 (mgAt P k).1.pl) := by
  have h : ∀ j, j < 4 → wr.cell? ⟨g, k * 4 + j, none⟩ = (rmgCells (mgAt P k))[j]? := fun j hj => by
    rw [hb.cell (p := ⟨g, k * 4 + j, none⟩) hg]; exact hc k j hk hj
  exact ⟨h 0 (by omega), h 1 (by omega), h 2 (by omega), h 3 (by omega)⟩

/-- The number of the message with this id's number, or -1. -/
def findM (P : List (Mg × Value)) (id : Int) : Int := findIx (fun k => decide (idNum (mgAt P k).1.id = id)) P.length

set_option maxHeartbeats 400000 in
theorem findMessage_any (v : Value) (P : List (Mg × Value)) (id : Int) (w : World) (h : MsgsAt 0 w v P) (hl : P.length ≤ 4) :
    Calls Try.prog 72 #[v, .int .i64 id] w fun e w' => e = .returned (.int .i64 (findM P id)) ∧ w' = w := by
  rcases h.opened with ⟨rfl, a, c, rfl⟩ | ⟨g, cap, rfl, hg, hcap, _, hc⟩
  · go_enter Try.func72, Try.ntmps72
    go_wp2
    refine wp_loop_rounds 1 ?_
    rw [rounds_succ]
    go_wp2
    go_ret
    exact ⟨ret_int (by simp [findM, findIx]), rfl⟩
  · have HC := hide hc
    clear hc
    go_enter Try.func72, Try.ntmps72
    go_wp2
    go_loop [5] (fun i => ∃ k : Nat, k ≤ P.length ∧ i = .int .i64 k ∧ ∀ j, j < k → decide (idNum (mgAt P j).1.id = id) = false) (fun i => P.length - (intOf i).toNat)
    case atStart => exact ⟨0, by omega, rfl, by intro j hj; omega⟩
    case round =>
      obtain ⟨k, hk, rfl, hno⟩ := hrel
      have HN := hide hno
      clear hno
      by_cases hlt : k < P.length
      · have hc1 := (mcells4 (unhide HC) hg (Below.refl _ _) hlt).2.1
        by_cases hm : idNum (mgAt P k).1.id = id
        · have hmb : (idNum (mgAt P k).1.id == id) = true := by simp [hm]
          have HM := hide hm
          clear hm
          go_wp2
          go_ret
          exact ⟨ret_int (by rw [findM, findIx_is (unhide HN) hlt (by simpa using unhide HM)]), rfl⟩
        · have hmb : (idNum (mgAt P k).1.id == id) = false := by simp [hm]
          have HM := hide hm
          clear hm
          go_wp2
          go_round
          case rel => exact ⟨k + 1, by omega, by go_num, fun j hj => by
            by_cases e : j = k
            · subst e; simpa using unhide HM
            · exact unhide HN j (by omega)⟩
          case measure => simp [intOf]; omega
      · go_wp2
        go_ret
        exact ⟨ret_int (by rw [findM, findIx_none (fun j hj => unhide HN j (by omega))]), rfl⟩

end Go.Proofs.Ytoihlnjcgopdlaa

namespace Go.Proofs.Ytoihlnjcgopdlaa
open Go.RowKit

def mAt (M : List Mg) (k : Nat) : Mg := M.getD k noMg.1
theorem mAt_fst (P : List (Mg × Value)) (k : Nat) : mAt (P.map Prod.fst) k = (mgAt P k).1 := by
  unfold mAt mgAt
  rw [List.getD_eq_getElem?_getD, List.getD_eq_getElem?_getD, List.getElem?_map]
  cases P[k]? <;> rfl

/-- Has an earlier message the id of message n? -/
def twice (M : List Mg) (n : Nat) : Bool := anyIx (fun k => decide ((mAt M k).id = (mAt M n).id)) n
def mE (M : List Mg) (n : Nat) : Int := if twice M n then 3 else errSigsE (mAt M n).sigs (mAt M n).sz
def mP (M : List Mg) (n : Nat) : Int := if twice M n then (mAt M n).pl else errSigsP (mAt M n).sigs (mAt M n).sz
def errDbIx (M : List Mg) : Nat := firstIx (fun n => decide (mE M n ≠ 0)) M.length
/-- P3 behind the text's form: the error and its place. -/
def errDbE (M : List Mg) : Int := if errDbIx M < M.length then mE M (errDbIx M) else 0
def errDbP (M : List Mg) : Int := if errDbIx M < M.length then mP M (errDbIx M) else 0

theorem errDb_none {M : List Mg} (h : errDbIx M = M.length) : errDbE M = 0 ∧ errDbP M = 0 := by
  rw [errDbE, errDbP, h, if_neg (by omega), if_neg (by omega)]; exact ⟨rfl, rfl⟩
theorem errDb_is {M : List Mg} {k : Nat} (h : errDbIx M = k) (hk : k < M.length) : errDbE M = mE M k ∧ errDbP M = mP M k := by
  rw [errDbE, errDbP, h, if_pos hk, if_pos hk]; exact ⟨rfl, rfl⟩

theorem hex_inj {a b : Int} (ha : isHexB a = true) (hb : isHexB b = true) (h : worth a = worth b) : a = b := by
  simp [isHexB, isDigB] at ha hb
  unfold worth at h
  split at h <;> split at h <;> omega
theorem hex_lt {a : Int} (ha : isHexB a = true) : 0 ≤ worth a ∧ worth a ≤ 15 := by
  simp [isHexB, isDigB] at ha
  unfold worth; split <;> omega

theorem bytes_ext {a b : ByteArray} (hs : a.size = b.size) (h : ∀ k, k < a.size → bt a k = bt b k) : a = b := by
  apply ByteArray.ext
  apply Array.ext
  · exact hs
  · intro k h1 h2
    have := h k h1
    rw [bt, dif_pos (show k < a.size from h1), bt, dif_pos (show k < b.size from h2)] at this
    have e : (a[k]'h1).toNat = (b[k]'h2).toNat := by omega
    exact UInt8.toNat_inj.1 e

theorem idBad_all {a : ByteArray} (h : idBad a = false) : ∀ k : Nat, k < 3 → headB k (bt a k) = true := by
  intro k hk
  cases e : headB k (bt a k) with
  | true => rfl
  | false =>
    have : idBad a = true := anyIx_true.2 ⟨k, hk, by rw [e]; rfl⟩
    rw [h] at this; cases this

theorem id_inj {a b : ByteArray} (ha : a.size = 3) (hb : b.size = 3) (ga : idBad a = false) (gb : idBad b = false) : idNum a = idNum b ↔ a = b := by
  constructor
  · intro h
    rw [idNum, if_pos ha, ga, idNum, if_pos hb, gb] at h
    simp only [idTo, Bool.false_eq_true, if_false] at h
    have a0 := idBad_all ga 0 (by omega)
    have a1 := idBad_all ga 1 (by omega)
    have a2 := idBad_all ga 2 (by omega)
    have b0 := idBad_all gb 0 (by omega)
    have b1 := idBad_all gb 1 (by omega)
    have b2 := idBad_all gb 2 (by omega)
    have c0 : isHexB (bt a 0) = true := by simp [headB] at a0; simp [isHexB, isDigB]; omega
    have d0 : isHexB (bt b 0) = true := by simp [headB] at b0; simp [isHexB, isDigB]; omega
    have c1 : isHexB (bt a 1) = true := by simpa [headB] using a1
    have c2 : isHexB (bt a 2) = true := by simpa [headB] using a2
    have d1 : isHexB (bt b 1) = true := by simpa [headB] using b1
    have d2 : isHexB (bt b 2) = true := by simpa [headB] using b2
    have l0 := hex_lt c0
    have l1 := hex_lt c1
    have l2 := hex_lt c2
    have m0 := hex_lt d0
    have m1 := hex_lt d1
    have m2 := hex_lt d2
    refine bytes_ext (by omega) (fun k hk => ?_)
    obtain rfl | rfl | rfl : k = 0 ∨ k = 1 ∨ k = 2 := by omega
    · exact hex_inj c0 d0 (by omega)
    · exact hex_inj c1 d1 (by omega)
    · exact hex_inj c2 d2 (by omega)
  · rintro rfl; rfl

theorem mgAt_take (P : List (Mg × Value)) (i k : Nat) (h : k < i) : mgAt (P.take i) k = mgAt P k := by simp [mgAt, h]

theorem findM_twice {P : List (Mg × Value)} (hok : ∀ x ∈ P, x.1.Ok) {i : Nat} (hi : i < P.length) : (0 ≤ findM (P.take i) (idNum (mgAt P i).1.id)) ↔ twice (P.map Prod.fst) i = true := by
  have hlen : (P.take i).length = i := by rw [List.length_take]; omega
  have oki := hok _ (mgAt_mem hi)
  have hex : (0 ≤ findM (P.take i) (idNum (mgAt P i).1.id)) ↔ ∃ k, k < i ∧ idNum (mgAt P k).1.id = idNum (mgAt P i).1.id := by
    unfold findM findIx
    rw [hlen]
    constructor
    · intro h
      by_cases h2 : firstIx (fun k => decide (idNum (mgAt (P.take i) k).1.id = idNum (mgAt P i).1.id)) i < i
      · have := firstIx_yes _ _ h2
        rw [mgAt_take P i _ h2] at this
        exact ⟨_, h2, by simpa using this⟩
      · rw [if_neg h2] at h; omega
    · rintro ⟨k, hk, e⟩
      have hle := firstIx_le (fun k => decide (idNum (mgAt (P.take i) k).1.id = idNum (mgAt P i).1.id)) i
      by_cases h2 : firstIx (fun k => decide (idNum (mgAt (P.take i) k).1.id = idNum (mgAt P i).1.id)) i < i
      · rw [if_pos h2]; omega
      · have := firstIx_no (fun k => decide (idNum (mgAt (P.take i) k).1.id = idNum (mgAt P i).1.id)) i k (by omega)
        rw [mgAt_take P i k hk] at this
        simp [e] at this
  rw [hex, twice, anyIx_true]
  constructor
  · rintro ⟨k, hk, e⟩
    have okk := hok _ (mgAt_mem (show k < P.length by omega))
    refine ⟨k, hk, ?_⟩
    rw [mAt_fst, mAt_fst]
    simpa using (id_inj okk.id oki.id okk.good oki.good).1 e
  · rintro ⟨k, hk, e⟩
    rw [mAt_fst, mAt_fst] at e
    simp only [decide_eq_true_eq] at e
    exact ⟨k, hk, by rw [e]⟩

theorem MsgsAt.take {w : World} {a : Option Addr} {cap k : Nat} {P : List (Mg × Value)} (h : MsgsAt 0 w (.slice a P.length cap) P) (hk : k < P.length) : MsgsAt 0 w (.slice a k cap) (P.take k) := by
  have h1 := ownsRow_take h.1 k (by omega) (by omega)
  refine ⟨?_, fun x hx => h.2 x (List.mem_of_mem_take hx)⟩
  rw [flat_take mgCells 4 (fun _ => rfl) P k, List.length_take, Nat.min_eq_left (by omega)]
  exact h1

theorem sigs_ok {m : Mg} (h : m.Ok) : ∀ k, k < m.sigs.length → (sgAt m.sigs k).Ok := fun k hk => h.ok _ (by rw [sgAt_eq _ _ hk]; exact List.getElem_mem hk)

end Go.Proofs.Ytoihlnjcgopdlaa

namespace Go.Proofs.Ytoihlnjcgopdlaa
open Go.RowKit

set_option maxRecDepth 100000 in
set_option maxHeartbeats 1000000 in
theorem checkMessages_any (v : Value) (P : List (Mg × Value)) (w : World) (h : MsgsAt 0 w v P) (hl : P.length ≤ 4) (hok : ∀ x ∈ P, x.1.Ok) :
    Calls Try.prog 66 #[v] w fun e w' => e = .returned (.tuple #[.int .i64 (errDbE (P.map Prod.fst)), .int .i64 (errDbP (P.map Prod.fst))]) ∧ Below w.heap.size w w' := by
  have HH := hide h
  have HOK := hide hok
  clear h hok
  rcases (unhide HH).opened with ⟨rfl, a, c, rfl⟩ | ⟨g, cap, rfl, hg, hcap, hcm, hc⟩
  · go_enter Try.func66, Try.ntmps66
    go_wp2
    refine wp_loop_rounds 1 ?_
    rw [rounds_succ]
    go_wp2
    go_ret2
    exact ⟨by simp [errDbE, errDbP], Below.refl _ _⟩
  · have HC := hide hc
    unfold maxLen at hcm
    clear hc
    go_enter Try.func66, Try.ntmps66
    go_wp2
    go_loopw [4, 5, 6, 7] (fun i _ _ _ wr => ∃ k : Nat, k ≤ P.length ∧ i = .int .i64 k ∧ (∀ j, j < k → decide (mE (P.map Prod.fst) j ≠ 0) = false) ∧ Below w.heap.size w wr) (fun i _ _ _ _ => P.length - (intOf i).toNat)
    case atStart => exact ⟨0, by omega, rfl, by intro j hj; omega, Below.refl _ _⟩
    case round =>
      obtain ⟨k, hk, rfl, hno, hb⟩ := hrel
      have HN := hide hno
      have HB := hide hb
      clear hno
      by_cases hlt : k < P.length
      · obtain ⟨c0, c1, c2, c3⟩ := mcells4 (unhide HC) hg hb hlt
        have hsg : SigsAt w (mgAt P k).2 (mgAt P k).1.sigs := (unhide HH).2 _ (mgAt_mem hlt)
        obtain ⟨va, vcap, hva⟩ := ownsRow_form hsg
        rw [hva] at c3 hsg
        have HSG := hide hsg
        have OKk := hide (unhide HOK _ (mgAt_mem hlt))
        clear hva hsg hb
        have hi0 : (0 : Int) ≤ (k : Int) := by omega
        have hi1 : (k : Int) < (P.length : Int) := by omega
        have hi2 : (k : Int) ≤ (P.length : Int) := by omega
        have hi3 : (k : Int) ≤ (cap : Int) := by omega
        have hbox := fun (wx : World) (h : Below (wr.heap.size + 1) (wr.alloc (.cells #[.int .i64 (mgAt P k).1.pl, .int .i64 (idNum (mgAt P k).1.id), .int .i64 (mgAt P k).1.sz, .slice va (mgAt P k).1.sigs.length vcap] 74)) wx) => box_cell h
        have HT := hide (show (P.take k).length ≤ 4 by rw [List.length_take]; omega)
        have htw := findM_twice (unhide HOK) hlt
        cases htb : twice (P.map Prod.fst) k with
        | true =>
          have hf0 : 0 ≤ findM (P.take k) (idNum (mgAt P k).1.id) := htw.2 htb
          have HTB := hide htb
          clear htw htb
          go_wp2
          clear c0 c1 c2 c3
          refine wp_region_noPanic ?_
          refine wp_region_held_drew (S := fun w' => Below (wr.heap.size + 1) (wr.alloc (.cells #[.int .i64 (mgAt P k).1.pl, .int .i64 (idNum (mgAt P k).1.id), .int .i64 (mgAt P k).1.sz, .slice va (mgAt P k).1.sigs.length vcap] 74)) w') (by kernel_rfl) (Below.refl _ _).drew (fun hHeld => ?_)
          refine wpAnyH_take (i := 0) (v := ?_) (at_list rfl) (by kernel_rfl) (by kernel_rfl) (by kernel_rfl) (fun _ _ _ h => h) (Or.inl ⟨by rfl, ?_⟩) (by assumption) ?_
          rotate_left
          · intro w hSw; (try dsimp only at hSw); first | (go_simp; done) | (go_simp; with_reducible rfl)
          try simp only [Act.put]
          try simp only [List.setIfInBounds_toArray]
          try simp only [List.set_cons_succ]
          try simp only [List.set_cons_zero]
          refine wpAnyH_take (i := 1) (v := ?_) (at_list rfl) (by kernel_rfl) (by kernel_rfl) (by kernel_rfl) (fun _ _ _ h => h) (Or.inl ⟨by rfl, ?_⟩) (by assumption) ?_
          rotate_left
          · intro w hSw; (try dsimp only at hSw); first | (go_simp; done) | (go_simp; with_reducible rfl)
          try simp only [Act.put]
          try simp only [List.setIfInBounds_toArray]
          try simp only [List.set_cons_succ]
          try simp only [List.set_cons_zero]
          refine wpAnyH_take (i := 2) (v := ?_) (at_list rfl) (by kernel_rfl) (by kernel_rfl) (by kernel_rfl) (fun _ _ _ h => h) (Or.inl ⟨by rfl, ?_⟩) (by assumption) ?_
          rotate_left
          · intro w hSw; (try dsimp only at hSw); first | (go_simp; done) | (go_simp; with_reducible rfl)
          try simp only [Act.put]
          try simp only [List.setIfInBounds_toArray]
          try simp only [List.set_cons_succ]
          try simp only [List.set_cons_zero]
          refine wpAnyH_take (i := 3) (v := ?_) (at_list rfl) (by kernel_rfl) (by kernel_rfl) (by kernel_rfl) (fun _ _ _ h => h) (Or.inl ⟨by rfl, ?_⟩) (by assumption) ?_
          rotate_left
          · intro w hSw; (try dsimp only at hSw); first | (go_simp; done) | (go_simp; with_reducible rfl)
          try simp only [Act.put]
          try simp only [List.setIfInBounds_toArray]
          try simp only [List.set_cons_succ]
          try simp only [List.set_cons_zero]
          refine wpAnyH_take (i := 4) (v := ?_) (at_list rfl) (by kernel_rfl) (by kernel_rfl) (by kernel_rfl) (fun _ _ _ h => h) (Or.inl ⟨by rfl, ?_⟩) (by assumption) ?_
          rotate_left
          · intro w hSw; (try dsimp only at hSw); first | (go_simp; done) | (go_simp; with_reducible rfl)
          try simp only [Act.put]
          try simp only [List.setIfInBounds_toArray]
          try simp only [List.set_cons_succ]
          try simp only [List.set_cons_zero]
          refine wpAnyH_ready (rs := [5]) (by kernel_rfl) (by simp) ?_
          refine AllReadyH.cons (at_list rfl) (fun K hK => ?_) AllReadyH.nil
          go_simp
          refine (findMessage_any _ (P.take k) _ _ ((show MsgsAt 0 _ _ P from (unhide HH).below ((unhide HB).trans ((box_below hHeld).mono (unhide HB).size))).take hlt) (unhide HT)).mono ?_; rintro e w3 ⟨rfl, rfl⟩; dsimp only
          refine hK.out _ _ (hHeld) (fun hHeld => ?_)
          clear hK K
          try simp only [Act.put]
          try simp only [List.setIfInBounds_toArray]
          try simp only [List.set_cons_succ]
          try simp only [List.set_cons_zero]
          refine wpAnyH_take (i := 6) (v := ?_) (at_list rfl) (by kernel_rfl) (by kernel_rfl) (by kernel_rfl) (fun _ _ _ h => h) (Or.inl ⟨by rfl, ?_⟩) (by assumption) ?_
          rotate_left
          · intro w hSw; (try dsimp only at hSw); first | (go_simp; done) | (go_simp; with_reducible rfl)
          try simp only [Act.put]
          try simp only [List.setIfInBounds_toArray]
          try simp only [List.set_cons_succ]
          try simp only [List.set_cons_zero]
          refine wpAnyH_done (by kernel_rfl) ?_ _
          refine NoPanic.normal ?_
          go_wp2
          refine wp_region_noPanic ?_
          refine wp_region_held_drew (S := fun w' => Below (wr.heap.size + 1) (wr.alloc (.cells #[.int .i64 (mgAt P k).1.pl, .int .i64 (idNum (mgAt P k).1.id), .int .i64 (mgAt P k).1.sz, .slice va (mgAt P k).1.sigs.length vcap] 74)) w') (by kernel_rfl) (by exact (Below.drew (by assumption))) (fun hHeld => ?_)
          refine wpAnyH_take (i := 0) (v := ?_) (at_list rfl) (by kernel_rfl) (by kernel_rfl) (by kernel_rfl) (fun _ _ _ h => h) (Or.inl ⟨by rfl, ?_⟩) (by assumption) ?_
          rotate_left
          · intro w hSw; (try dsimp only at hSw); first | (go_simp; done) | (go_simp; with_reducible rfl)
          try simp only [Act.put]
          try simp only [List.setIfInBounds_toArray]
          try simp only [List.set_cons_succ]
          try simp only [List.set_cons_zero]
          refine wpAnyH_take (i := 1) (v := ?_) (at_list rfl) (by kernel_rfl) (by kernel_rfl) (by kernel_rfl) (fun _ _ _ h => h) (Or.inl ⟨by rfl, ?_⟩) (by assumption) ?_
          rotate_left
          · intro w hSw; (try dsimp only at hSw); first | (go_simp; done) | (go_simp; with_reducible rfl)
          try simp only [Act.put]
          try simp only [List.setIfInBounds_toArray]
          try simp only [List.set_cons_succ]
          try simp only [List.set_cons_zero]
          refine wpAnyH_take (i := 2) (v := ?_) (at_list rfl) (by kernel_rfl) (by kernel_rfl) (by kernel_rfl) (fun _ _ _ h => h) (Or.inl ⟨by rfl, ?_⟩) (by assumption) ?_
          rotate_left
          · intro w hSw; (try dsimp only at hSw); first | (go_simp; done) | (go_simp; with_reducible rfl)
          try simp only [Act.put]
          try simp only [List.setIfInBounds_toArray]
          try simp only [List.set_cons_succ]
          try simp only [List.set_cons_zero]
          refine wpAnyH_take (i := 3) (v := ?_) (at_list rfl) (by kernel_rfl) (by kernel_rfl) (by kernel_rfl) (fun _ _ _ h => h) (Or.inl ⟨by rfl, ?_⟩) (by assumption) ?_
          rotate_left
          · intro w hSw; (try dsimp only at hSw); first | (go_simp; done) | (go_simp; with_reducible rfl)
          try simp only [Act.put]
          try simp only [List.setIfInBounds_toArray]
          try simp only [List.set_cons_succ]
          try simp only [List.set_cons_zero]
          refine wpAnyH_done (by kernel_rfl) ?_ _
          refine NoPanic.normal ?_
          go_wp2
          go_ret2
          have hmE : mE (P.map Prod.fst) k = 3 := by rw [mE, if_pos (unhide HTB)]
          have hx : errDbIx (P.map Prod.fst) = k := firstIx_is (unhide HN) (by simpa using hlt) (by rw [hmE]; rfl)
          exact ⟨by rw [(errDb_is hx (by simpa using hlt)).1, (errDb_is hx (by simpa using hlt)).2, hmE, mP, if_pos (unhide HTB), mAt_fst]; rfl, (unhide HB).trans ((box_below (by assumption)).mono (unhide HB).size)⟩
        | false =>
          have hf0 : findM (P.take k) (idNum (mgAt P k).1.id) < 0 := by
            rcases Int.lt_or_le (findM (P.take k) (idNum (mgAt P k).1.id)) 0 with h' | h'
            · exact h'
            · rw [htw.1 h'] at htb; cases htb
          have HTB := hide htb
          clear htw htb
          go_wp2
          clear c0 c1 c2 c3
          refine wp_region_noPanic ?_
          refine wp_region_held_drew (S := fun w' => Below (wr.heap.size + 1) (wr.alloc (.cells #[.int .i64 (mgAt P k).1.pl, .int .i64 (idNum (mgAt P k).1.id), .int .i64 (mgAt P k).1.sz, .slice va (mgAt P k).1.sigs.length vcap] 74)) w') (by kernel_rfl) (Below.refl _ _).drew (fun hHeld => ?_)
          refine wpAnyH_take (i := 0) (v := ?_) (at_list rfl) (by kernel_rfl) (by kernel_rfl) (by kernel_rfl) (fun _ _ _ h => h) (Or.inl ⟨by rfl, ?_⟩) (by assumption) ?_
          rotate_left
          · intro w hSw; (try dsimp only at hSw); first | (go_simp; done) | (go_simp; with_reducible rfl)
          try simp only [Act.put]
          try simp only [List.setIfInBounds_toArray]
          try simp only [List.set_cons_succ]
          try simp only [List.set_cons_zero]
          refine wpAnyH_take (i := 1) (v := ?_) (at_list rfl) (by kernel_rfl) (by kernel_rfl) (by kernel_rfl) (fun _ _ _ h => h) (Or.inl ⟨by rfl, ?_⟩) (by assumption) ?_
          rotate_left
          · intro w hSw; (try dsimp only at hSw); first | (go_simp; done) | (go_simp; with_reducible rfl)
          try simp only [Act.put]
          try simp only [List.setIfInBounds_toArray]
          try simp only [List.set_cons_succ]
          try simp only [List.set_cons_zero]
          refine wpAnyH_take (i := 2) (v := ?_) (at_list rfl) (by kernel_rfl) (by kernel_rfl) (by kernel_rfl) (fun _ _ _ h => h) (Or.inl ⟨by rfl, ?_⟩) (by assumption) ?_
          rotate_left
          · intro w hSw; (try dsimp only at hSw); first | (go_simp; done) | (go_simp; with_reducible rfl)
          try simp only [Act.put]
          try simp only [List.setIfInBounds_toArray]
          try simp only [List.set_cons_succ]
          try simp only [List.set_cons_zero]
          refine wpAnyH_take (i := 3) (v := ?_) (at_list rfl) (by kernel_rfl) (by kernel_rfl) (by kernel_rfl) (fun _ _ _ h => h) (Or.inl ⟨by rfl, ?_⟩) (by assumption) ?_
          rotate_left
          · intro w hSw; (try dsimp only at hSw); first | (go_simp; done) | (go_simp; with_reducible rfl)
          try simp only [Act.put]
          try simp only [List.setIfInBounds_toArray]
          try simp only [List.set_cons_succ]
          try simp only [List.set_cons_zero]
          refine wpAnyH_take (i := 4) (v := ?_) (at_list rfl) (by kernel_rfl) (by kernel_rfl) (by kernel_rfl) (fun _ _ _ h => h) (Or.inl ⟨by rfl, ?_⟩) (by assumption) ?_
          rotate_left
          · intro w hSw; (try dsimp only at hSw); first | (go_simp; done) | (go_simp; with_reducible rfl)
          try simp only [Act.put]
          try simp only [List.setIfInBounds_toArray]
          try simp only [List.set_cons_succ]
          try simp only [List.set_cons_zero]
          refine wpAnyH_ready (rs := [5]) (by kernel_rfl) (by simp) ?_
          refine AllReadyH.cons (at_list rfl) (fun K hK => ?_) AllReadyH.nil
          go_simp
          refine (findMessage_any _ (P.take k) _ _ ((show MsgsAt 0 _ _ P from (unhide HH).below ((unhide HB).trans ((box_below hHeld).mono (unhide HB).size))).take hlt) (unhide HT)).mono ?_; rintro e w3 ⟨rfl, rfl⟩; dsimp only
          refine hK.out _ _ (hHeld) (fun hHeld => ?_)
          clear hK K
          try simp only [Act.put]
          try simp only [List.setIfInBounds_toArray]
          try simp only [List.set_cons_succ]
          try simp only [List.set_cons_zero]
          refine wpAnyH_take (i := 6) (v := ?_) (at_list rfl) (by kernel_rfl) (by kernel_rfl) (by kernel_rfl) (fun _ _ _ h => h) (Or.inl ⟨by rfl, ?_⟩) (by assumption) ?_
          rotate_left
          · intro w hSw; (try dsimp only at hSw); first | (go_simp; done) | (go_simp; with_reducible rfl)
          try simp only [Act.put]
          try simp only [List.setIfInBounds_toArray]
          try simp only [List.set_cons_succ]
          try simp only [List.set_cons_zero]
          refine wpAnyH_done (by kernel_rfl) ?_ _
          refine NoPanic.normal ?_
          have hbx := hbox _ hHeld
          go_wp2_with fail
          refine (checkSignals_any _ _ (mgAt P k).1.sz _ (mgAt P k).1.sigs _ (ownsRow_below (unhide HSG) ((unhide HB).trans ((box_below (by assumption)).mono (unhide HB).size))) (unhide OKk).len (sigs_ok (unhide OKk)) (unhide OKk).sz0 (unhide OKk).sz1).mono ?_
          rintro e w4 ⟨rfl, hb4⟩
          have HB4 := hide ((unhide HB).trans ((box_below (box_next (by assumption) hb4)).mono (unhide HB).size))
          have hmE : mE (P.map Prod.fst) k = errSigsE (mgAt P k).1.sigs (mgAt P k).1.sz := by rw [mE, if_neg (by rw [unhide HTB]; simp), mAt_fst]
          have hmP : mP (P.map Prod.fst) k = errSigsP (mgAt P k).1.sigs (mgAt P k).1.sz := by rw [mP, if_neg (by rw [unhide HTB]; simp), mAt_fst]
          have HME := hide hmE
          have HMP := hide hmP
          clear hmE hmP hb4 hbx
          by_cases hz2 : errSigsE (mgAt P k).1.sigs (mgAt P k).1.sz ≠ 0
          · have hz3 : (errSigsE (mgAt P k).1.sigs (mgAt P k).1.sz != 0) = true := by simpa using hz2
            have HZ := hide hz2
            clear hz2
            go_wp2
            go_ret2
            have hx : errDbIx (P.map Prod.fst) = k := firstIx_is (unhide HN) (by simpa using hlt) (by rw [unhide HME]; simpa using unhide HZ)
            exact ⟨by rw [(errDb_is hx (by simpa using hlt)).1, (errDb_is hx (by simpa using hlt)).2, unhide HME, unhide HMP]; rfl, unhide HB4⟩
          · have hz3 : (errSigsE (mgAt P k).1.sigs (mgAt P k).1.sz != 0) = false := by simpa using hz2
            have HZ := hide hz2
            clear hz2
            go_wp2
            go_roundw
            case rel => exact ⟨k + 1, by omega, by go_num, fun j hj => by
                by_cases e : j = k
                · subst e; rw [unhide HME]; simpa using unhide HZ
                · exact unhide HN j (by omega), unhide HB4⟩
            case measure => simp [intOf]; omega
      · go_wp2
        go_ret2
        have hx : errDbIx (P.map Prod.fst) = (P.map Prod.fst).length := firstIx_none (fun j hj => unhide HN j (by simp at hj; omega))
        exact ⟨by rw [(errDb_none hx).1, (errDb_none hx).2]; rfl, unhide HB⟩

end Go.Proofs.Ytoihlnjcgopdlaa

namespace Go.Proofs.Ytoihlnjcgopdlaa
open Go.RowKit

/-- P3: the error, and its place. -/
def chkE (s : ByteArray) : Int := if 320 < s.size then 1 else match pDb s 4 0 with | .inl _ => 2 | .inr M => errDbE M
def chkP (s : ByteArray) : Int := if 320 < s.size then 0 else match pDb s 4 0 with | .inl p => p | .inr M => errDbP M
theorem chk_long {s : ByteArray} (h : 320 < s.size) : chkE s = 1 ∧ chkP s = 0 := by rw [chkE, chkP, if_pos h, if_pos h]; exact ⟨rfl, rfl⟩
theorem chk_text {s : ByteArray} {p : Nat} (h : ¬ 320 < s.size) (hp : pDb s 4 0 = .inl p) : chkE s = 2 ∧ chkP s = p := by rw [chkE, chkP, if_neg h, if_neg h, hp]; exact ⟨rfl, rfl⟩
theorem chk_db {s : ByteArray} {M : List Mg} (h : ¬ 320 < s.size) (hp : pDb s 4 0 = .inr M) : chkE s = errDbE M ∧ chkP s = errDbP M := by rw [chkE, chkP, if_neg h, if_neg h, hp]; exact ⟨rfl, rfl⟩

theorem errDb_ok {M : List Mg} (h : errDbE M = 0) : errDbP M = 0 := by
  have hle := firstIx_le (fun n => decide (mE M n ≠ 0)) M.length
  by_cases h2 : errDbIx M < M.length
  · have := firstIx_yes (fun n => decide (mE M n ≠ 0)) M.length h2
    rw [(errDb_is rfl h2).1] at h
    simp only [decide_eq_true_eq] at this
    exact absurd h this
  · exact (errDb_none (by unfold errDbIx at h2 ⊢; omega)).2

/-- What soundMessages answers. -/
def SndOut (s : ByteArray) (e : Ending) (w' : World) : Prop :=
  (chkE s = 0 ∧ ∃ v P, e = .returned (.tuple #[v, .int .i64 0, .int .i64 0]) ∧ pDb s 4 0 = .inr (P.map Prod.fst) ∧ MsgsAt 0 w' v P ∧ P.length ≤ 4 ∧ ∀ x ∈ P, x.1.Ok) ∨
  (chkE s ≠ 0 ∧ e = .returned (.tuple #[.slice none 0 0, .int .i64 (chkE s), .int .i64 (chkP s)]))

set_option maxHeartbeats 400000 in
theorem soundMessages_any (s : ByteArray) (w : World) (hs : s.size ≤ maxLen) :
    Calls Try.prog 36 #[.string s] w fun e w' => SndOut s e w' ∧ Below w.heap.size w w' := by
  unfold maxLen at hs
  by_cases hlong : 320 < s.size
  · have HC := hide (chk_long hlong)
    go_enter Try.func36, Try.ntmps36
    go_wp2
    go_ret3
    refine ⟨.inr ⟨by rw [(unhide HC).1]; decide, ?_⟩, Below.refl _ _⟩
    rw [(unhide HC).1, (unhide HC).2]; rfl
  · go_enter Try.func36, Try.ntmps36
    go_wp2_with fail
    refine (readDatabase_any s _ (by omega)).mono ?_
    rintro e w1 ⟨hout, hb1⟩
    have HB1 := hide hb1
    clear hb1
    cases hpd : pDb s 4 0 with
    | inl p =>
      rw [DbOut, hpd] at hout
      dsimp only at hout
      subst hout
      have HC := hide (chk_text hlong hpd)
      clear hpd
      go_wp2
      go_ret3
      refine ⟨.inr ⟨by rw [(unhide HC).1]; decide, ?_⟩, unhide HB1⟩
      rw [(unhide HC).1, (unhide HC).2]; rfl
    | inr M =>
      rw [DbOut, hpd] at hout
      dsimp only at hout
      obtain ⟨v, P, q, rfl, rfl, hm, hl, hok⟩ := hout
      obtain ⟨sa, cap, rfl⟩ := ownsRow_form hm.1
      have HM := hide hm
      have HOK := hide hok
      have HPD := hide hpd
      have HC := hide (chk_db hlong hpd)
      clear hm hok hpd
      go_wp2_with fail
      refine (checkMessages_any _ P _ (unhide HM) hl (unhide HOK)).mono ?_
      rintro e w2 ⟨rfl, hb2⟩
      have HM2 := hide ((unhide HM).below hb2)
      have HB2 := hide ((unhide HB1).trans (hb2.mono (unhide HB1).size))
      clear hb2
      by_cases hz : errDbE (P.map Prod.fst) = 0
      · have hz2 : (errDbE (P.map Prod.fst) != 0) = false := by rw [hz]; rfl
        have HZ := hide hz
        clear hz
        go_wp2
        go_ret3
        exact ⟨.inl ⟨by rw [(unhide HC).1]; exact unhide HZ, _, P, rfl, unhide HPD, unhide HM2, hl, unhide HOK⟩, unhide HB2⟩
      · have hz2 : (errDbE (P.map Prod.fst) != 0) = true := by simpa using hz
        have HZ := hide hz
        clear hz
        go_wp2
        go_ret3
        refine ⟨.inr ⟨by rw [(unhide HC).1]; exact unhide HZ, ?_⟩, unhide HB2⟩
        rw [(unhide HC).1, (unhide HC).2]; rfl

theorem chk_ok {s : ByteArray} (h : chkE s = 0) : chkP s = 0 := by
  by_cases hl : 320 < s.size
  · exact (chk_long hl).2
  · cases hp : pDb s 4 0 with
    | inl p => rw [(chk_text hl hp).1] at h; omega
    | inr M => rw [(chk_db hl hp).2]; rw [(chk_db hl hp).1] at h; exact errDb_ok h

end Go.Proofs.Ytoihlnjcgopdlaa

namespace Go.Proofs.Ytoihlnjcgopdlaa
open Go.RowKit

theorem str_inj {a b : ByteArray} (h : a.toList = b.toList) : a = b := by
  rw [ByteArray.toList_eq, ByteArray.toList_eq] at h
  exact ByteArray.ext (Array.toList_inj.1 h)
theorem str_ne {a b : ByteArray} (h : ¬ a = b) : (a.toList == b.toList) = false := by
  rw [beq_eq_false_iff_ne]; exact fun e => h (str_inj e)

set_option maxRecDepth 100000 in
set_option maxHeartbeats 4000000 in
theorem rCheck_any (s : ByteArray) (w : World) (hs : s.size ≤ maxLen) :
    Calls Try.prog 16 #[.string s] w fun e w' => e = .returned (.tuple #[.int .i64 (chkE s), .int .i64 (chkP s)]) ∧ Below w.heap.size w w' := by
  unfold maxLen at hs
  by_cases hlong : 320 < s.size
  · have HC := hide (chk_long hlong)
    go_enter Try.func16, Try.ntmps16
    go_wp2
    go_ret2
    exact ⟨by rw [(unhide HC).1, (unhide HC).2]; rfl, Below.refl _ _⟩
  · have hd320 : decide ((320 : Int) < (s.size : Int)) = false := by simp; omega
    go_enter Try.func16, Try.ntmps16
    go_wp2_with fail
    refine (rRead_any s _ (by omega)).mono ?_
    rintro e w1 ⟨hout, hb1⟩
    have HB1 := hide hb1
    clear hb1
    cases hpd : pDb s 4 0 with
    | inl p =>
      rw [RDbOut, hpd] at hout
      dsimp only at hout
      subst hout
      have HC := hide (chk_text hlong hpd)
      clear hpd
      go_wp2
      go_ret2
      exact ⟨by rw [(unhide HC).1, (unhide HC).2]; rfl, unhide HB1⟩
    | inr M =>
      rw [RDbOut, hpd] at hout
      dsimp only at hout
      obtain ⟨v, P, q, rfl, rfl, hm, hl, hok⟩ := hout
      have HM := hide hm
      have HOK := hide hok
      have HC := hide (chk_db hlong hpd)
      clear hm hok hpd
      rcases (unhide HM).opened with ⟨rfl, a, c, rfl⟩ | ⟨g, cap, rfl, hg, hcap, hcm, hc⟩
      · go_wp2
        refine wp_loop_rounds 1 ?_
        rw [rounds_succ]
        go_wp2
        go_ret2
        exact ⟨by rw [(unhide HC).1, (unhide HC).2]; simp [errDbE, errDbP], unhide HB1⟩
      have HCC := hide hc
      unfold maxLen at hcm
      clear hc
      go_wp2
      go_loopw [7, 8, 9, 10] (fun i _ _ _ wr => ∃ k : Nat, k ≤ P.length ∧ i = .int .i64 k ∧ (∀ j, j < k → decide (mE (P.map Prod.fst) j ≠ 0) = false) ∧ Below w1.heap.size w1 wr) (fun i _ _ _ _ => P.length - (intOf i).toNat)
      case atStart => exact ⟨0, by omega, rfl, by intro j hj; omega, Below.refl _ _⟩
      case round =>
        obtain ⟨k, hk, rfl, hno, hb⟩ := hrel
        have HN := hide hno
        have HB := hide hb
        clear hno hb
        by_cases hlt : k < P.length
        · have ck := fun (wx : World) (h : Below w1.heap.size w1 wx) => rmcells4 (k := k) (unhide HCC) hg h hlt
          have hsg : RSigsAt w1 (mgAt P k).2 (mgAt P k).1.sigs := (unhide HM).2 _ (mgAt_mem hlt)
          obtain ⟨va, vcap, hva⟩ := ownsRow_form hsg
          rw [hva] at ck hsg
          have HSG := hide hsg
          have OKk := hide (unhide HOK _ (mgAt_mem hlt))
          clear hva hsg
          have hi0 : (0 : Int) ≤ (k : Int) := by omega
          have hi1 : (k : Int) < (P.length : Int) := by omega
          obtain ⟨wo, rfl⟩ : ∃ wo : World, wo = wr := ⟨_, rfl⟩
          go_wp2
          go_loopw [8] (fun i wr => ∃ m : Nat, m ≤ k ∧ i = .int .i64 m ∧ (∀ j, j < m → decide ((mAt (P.map Prod.fst) j).id = (mAt (P.map Prod.fst) k).id) = false) ∧ Below w1.heap.size w1 wr) (fun i _ => k - (intOf i).toNat)
          case atStart => exact ⟨0, by omega, rfl, by intro j hj; omega, unhide HB⟩
          case round =>
            obtain ⟨m, hm, rfl, hno2, hb2⟩ := hrel
            have HN2 := hide hno2
            clear hno2
            by_cases hlt2 : m < k
            · have cm := fun (wx : World) (h : Below w1.heap.size w1 wx) => (rmcells4 (k := m) (unhide HCC) hg h (by omega)).1
              have hj0 : (0 : Int) ≤ (m : Int) := by omega
              have hj1 : (m : Int) < (P.length : Int) := by omega
              go_wp2
              refine wp_region_noPanic ?_
              refine wp_region_held_drew (S := fun w' => Below w1.heap.size w1 w') (by kernel_rfl) hb2.drew (fun hHeld => ?_)
              clear hb2
              refine wpAnyH_take (i := 0) (v := ?_) (at_list rfl) (by kernel_rfl) (by kernel_rfl) (by kernel_rfl) (fun _ _ _ h => h) (Or.inl ⟨by rfl, ?_⟩) (by assumption) ?_
              rotate_left
              · intro w hSw; (try dsimp only at hSw); first | (go_simp; done) | (go_simp; with_reducible rfl)
              try simp only [Act.put]
              try simp only [List.setIfInBounds_toArray]
              try simp only [List.set_cons_succ]
              try simp only [List.set_cons_zero]
              refine wpAnyH_take (i := 1) (v := ?_) (at_list rfl) (by kernel_rfl) (by kernel_rfl) (by kernel_rfl) (fun _ _ _ h => h) (Or.inl ⟨by rfl, ?_⟩) (by assumption) ?_
              rotate_left
              · intro w hSw; (try dsimp only at hSw); first | (go_simp; done) | (go_simp; with_reducible rfl)
              try simp only [Act.put]
              try simp only [List.setIfInBounds_toArray]
              try simp only [List.set_cons_succ]
              try simp only [List.set_cons_zero]
              refine wpAnyH_take (i := 2) (v := ?_) (at_list rfl) (by kernel_rfl) (by kernel_rfl) (by kernel_rfl) (fun _ _ _ h => h) (Or.inl ⟨by rfl, ?_⟩) (by assumption) ?_
              rotate_left
              · intro w hSw; (try dsimp only at hSw); first | (go_simp; done) | (go_simp; with_reducible rfl)
              try simp only [Act.put]
              try simp only [List.setIfInBounds_toArray]
              try simp only [List.set_cons_succ]
              try simp only [List.set_cons_zero]
              refine wpAnyH_take (i := 3) (v := ?_) (at_list rfl) (by kernel_rfl) (by kernel_rfl) (by kernel_rfl) (fun _ _ _ h => h) (Or.inl ⟨by rfl, ?_⟩) (by assumption) ?_
              rotate_left
              · intro w hSw; (try dsimp only at hSw); first | (go_simp; done) | (go_simp; with_reducible rfl)
              try simp only [Act.put]
              try simp only [List.setIfInBounds_toArray]
              try simp only [List.set_cons_succ]
              try simp only [List.set_cons_zero]
              refine wpAnyH_take (i := 4) (v := ?_) (at_list rfl) (by kernel_rfl) (by kernel_rfl) (by kernel_rfl) (fun _ _ _ h => h) (Or.inl ⟨by rfl, ?_⟩) (by assumption) ?_
              rotate_left
              · intro w hSw; (try dsimp only at hSw); first | (go_simp; done) | (go_simp; with_reducible rfl)
              try simp only [Act.put]
              try simp only [List.setIfInBounds_toArray]
              try simp only [List.set_cons_succ]
              try simp only [List.set_cons_zero]
              refine wpAnyH_take (i := 5) (v := ?_) (at_list rfl) (by kernel_rfl) (by kernel_rfl) (by kernel_rfl) (fun _ _ _ h => h) (Or.inl ⟨by rfl, ?_⟩) (by assumption) ?_
              rotate_left
              · intro w hSw; (try dsimp only at hSw); first | (go_simp; done) | (go_simp; with_reducible rfl)
              try simp only [Act.put]
              try simp only [List.setIfInBounds_toArray]
              try simp only [List.set_cons_succ]
              try simp only [List.set_cons_zero]
              refine wpAnyH_take (i := 6) (v := ?_) (at_list rfl) (by kernel_rfl) (by kernel_rfl) (by kernel_rfl) (fun _ _ _ h => h) (Or.inl ⟨by rfl, ?_⟩) (by assumption) ?_
              rotate_left
              · intro w hSw; (try dsimp only at hSw); first | (go_simp; done) | (go_simp; with_reducible rfl)
              try simp only [Act.put]
              try simp only [List.setIfInBounds_toArray]
              try simp only [List.set_cons_succ]
              try simp only [List.set_cons_zero]
              refine wpAnyH_take (i := 7) (v := ?_) (at_list rfl) (by kernel_rfl) (by kernel_rfl) (by kernel_rfl) (fun _ _ _ h => h) (Or.inl ⟨by rfl, ?_⟩) (by assumption) ?_
              rotate_left
              · intro w hSw; (try dsimp only at hSw); first | (go_simp; done) | (go_simp; with_reducible rfl)
              try simp only [Act.put]
              try simp only [List.setIfInBounds_toArray]
              try simp only [List.set_cons_succ]
              try simp only [List.set_cons_zero]
              refine wpAnyH_take (i := 8) (v := ?_) (at_list rfl) (by kernel_rfl) (by kernel_rfl) (by kernel_rfl) (fun _ _ _ h => h) (Or.inl ⟨by rfl, ?_⟩) (by assumption) ?_
              rotate_left
              · intro w hSw; (try dsimp only at hSw); first | (go_simp; done) | (go_simp; with_reducible rfl)
              try simp only [Act.put]
              try simp only [List.setIfInBounds_toArray]
              try simp only [List.set_cons_succ]
              try simp only [List.set_cons_zero]
              refine wpAnyH_take (i := 9) (v := ?_) (at_list rfl) (by kernel_rfl) (by kernel_rfl) (by kernel_rfl) (fun _ _ _ h => h) (Or.inl ⟨by rfl, ?_⟩) (by assumption) ?_
              rotate_left
              · intro w hSw; (try dsimp only at hSw); first | (go_simp; done) | (go_simp; with_reducible rfl)
              try simp only [Act.put]
              try simp only [List.setIfInBounds_toArray]
              try simp only [List.set_cons_succ]
              try simp only [List.set_cons_zero]
              by_cases hid : (mgAt P m).1.id = (mgAt P k).1.id
              · have hb3 : ((mgAt P m).1.id.toList == (mgAt P k).1.id.toList) = true := by rw [hid]; simp
                have HID := hide hid
                clear hid
                refine wpAnyH_take (i := 10) (v := ?_) (at_list rfl) (by kernel_rfl) (by kernel_rfl) (by kernel_rfl) (fun _ _ _ h => h) (Or.inl ⟨by rfl, ?_⟩) (by assumption) ?_
                rotate_left
                · intro w hSw; (try dsimp only at hSw); first | (go_simp; done) | (go_simp; with_reducible rfl)
                try simp only [Act.put]
                try simp only [List.setIfInBounds_toArray]
                try simp only [List.set_cons_succ]
                try simp only [List.set_cons_zero]
                refine wpAnyH_done (by kernel_rfl) ?_ _
                refine NoPanic.normal ?_
                clear cm hb3
                go_wp2
                refine wp_region_noPanic ?_
                refine wp_region_held_drew (S := fun w' => Below w1.heap.size w1 w') (by kernel_rfl) (by exact (Below.drew (by assumption))) (fun hHeld => ?_)
                refine wpAnyH_take (i := 0) (v := ?_) (at_list rfl) (by kernel_rfl) (by kernel_rfl) (by kernel_rfl) (fun _ _ _ h => h) (Or.inl ⟨by rfl, ?_⟩) (by assumption) ?_
                rotate_left
                · intro w hSw; (try dsimp only at hSw); first | (go_simp; done) | (go_simp; with_reducible rfl)
                try simp only [Act.put]
                try simp only [List.setIfInBounds_toArray]
                try simp only [List.set_cons_succ]
                try simp only [List.set_cons_zero]
                refine wpAnyH_take (i := 1) (v := ?_) (at_list rfl) (by kernel_rfl) (by kernel_rfl) (by kernel_rfl) (fun _ _ _ h => h) (Or.inl ⟨by rfl, ?_⟩) (by assumption) ?_
                rotate_left
                · intro w hSw; (try dsimp only at hSw); first | (go_simp; done) | (go_simp; with_reducible rfl)
                try simp only [Act.put]
                try simp only [List.setIfInBounds_toArray]
                try simp only [List.set_cons_succ]
                try simp only [List.set_cons_zero]
                refine wpAnyH_take (i := 2) (v := ?_) (at_list rfl) (by kernel_rfl) (by kernel_rfl) (by kernel_rfl) (fun _ _ _ h => h) (Or.inl ⟨by rfl, ?_⟩) (by assumption) ?_
                rotate_left
                · intro w hSw; (try dsimp only at hSw); first | (go_simp; done) | (go_simp; with_reducible rfl)
                try simp only [Act.put]
                try simp only [List.setIfInBounds_toArray]
                try simp only [List.set_cons_succ]
                try simp only [List.set_cons_zero]
                refine wpAnyH_take (i := 3) (v := ?_) (at_list rfl) (by kernel_rfl) (by kernel_rfl) (by kernel_rfl) (fun _ _ _ h => h) (Or.inl ⟨by rfl, ?_⟩) (by assumption) ?_
                rotate_left
                · intro w hSw; (try dsimp only at hSw); first | (go_simp; done) | (go_simp; with_reducible rfl)
                try simp only [Act.put]
                try simp only [List.setIfInBounds_toArray]
                try simp only [List.set_cons_succ]
                try simp only [List.set_cons_zero]
                refine wpAnyH_take (i := 4) (v := ?_) (at_list rfl) (by kernel_rfl) (by kernel_rfl) (by kernel_rfl) (fun _ _ _ h => h) (Or.inl ⟨by rfl, ?_⟩) (by assumption) ?_
                rotate_left
                · intro w hSw; (try dsimp only at hSw); first | (go_simp; done) | (go_simp; with_reducible rfl)
                try simp only [Act.put]
                try simp only [List.setIfInBounds_toArray]
                try simp only [List.set_cons_succ]
                try simp only [List.set_cons_zero]
                refine wpAnyH_take (i := 5) (v := ?_) (at_list rfl) (by kernel_rfl) (by kernel_rfl) (by kernel_rfl) (fun _ _ _ h => h) (Or.inl ⟨by rfl, ?_⟩) (by assumption) ?_
                rotate_left
                · intro w hSw; (try dsimp only at hSw); first | (go_simp; done) | (go_simp; with_reducible rfl)
                try simp only [Act.put]
                try simp only [List.setIfInBounds_toArray]
                try simp only [List.set_cons_succ]
                try simp only [List.set_cons_zero]
                refine wpAnyH_take (i := 6) (v := ?_) (at_list rfl) (by kernel_rfl) (by kernel_rfl) (by kernel_rfl) (fun _ _ _ h => h) (Or.inl ⟨by rfl, ?_⟩) (by assumption) ?_
                rotate_left
                · intro w hSw; (try dsimp only at hSw); first | (go_simp; done) | (go_simp; with_reducible rfl)
                try simp only [Act.put]
                try simp only [List.setIfInBounds_toArray]
                try simp only [List.set_cons_succ]
                try simp only [List.set_cons_zero]
                refine wpAnyH_done (by kernel_rfl) ?_ _
                refine NoPanic.normal ?_
                go_wp2
                go_ret2
                have htw : twice (P.map Prod.fst) k = true := anyIx_is (unhide HN2) hlt2 (by rw [mAt_fst, mAt_fst]; simpa using unhide HID)
                have hmE : mE (P.map Prod.fst) k = 3 := by rw [mE, if_pos htw]
                have hx : errDbIx (P.map Prod.fst) = k := firstIx_is (unhide HN) (by simpa using hlt) (by rw [hmE]; rfl)
                exact ⟨by rw [(unhide HC).1, (unhide HC).2, (errDb_is hx (by simpa using hlt)).1, (errDb_is hx (by simpa using hlt)).2, hmE, mP, if_pos htw, mAt_fst]; rfl, (unhide HB1).trans (Below.mono (by assumption) (unhide HB1).size)⟩
              · have hb3 : ((mgAt P m).1.id.toList == (mgAt P k).1.id.toList) = false := str_ne hid
                have HID := hide hid
                clear hid
                refine wpAnyH_take (i := 10) (v := ?_) (at_list rfl) (by kernel_rfl) (by kernel_rfl) (by kernel_rfl) (fun _ _ _ h => h) (Or.inl ⟨by rfl, ?_⟩) (by assumption) ?_
                rotate_left
                · intro w hSw; (try dsimp only at hSw); first | (go_simp; done) | (go_simp; with_reducible rfl)
                try simp only [Act.put]
                try simp only [List.setIfInBounds_toArray]
                try simp only [List.set_cons_succ]
                try simp only [List.set_cons_zero]
                refine wpAnyH_done (by kernel_rfl) ?_ _
                refine NoPanic.normal ?_
                clear cm hb3
                go_wp2
                go_roundw
                case rel => exact ⟨m + 1, by omega, by go_num, fun j hj => by
                    by_cases e : j = m
                    · subst e; rw [mAt_fst, mAt_fst]; simpa using unhide HID
                    · exact unhide HN2 j (by omega), by assumption⟩
                case measure => simp [intOf]; omega
            · have htw : twice (P.map Prod.fst) k = false := anyIx_none (fun j hj => unhide HN2 j (by omega))
              have HTW := hide htw
              have HB2 := hide hb2
              have hmk : m = k := by omega
              subst hmk
              clear htw
              obtain ⟨L, hLL⟩ : ∃ L, L = (mgAt P m).1.sigs := ⟨_, rfl⟩
              have HLL := hide hLL
              have hmE : mE (P.map Prod.fst) m = errSigsE L (mgAt P m).1.sz := by rw [mE, if_neg (by rw [unhide HTW]; simp), mAt_fst, hLL]
              have hmP : mP (P.map Prod.fst) m = errSigsP L (mgAt P m).1.sz := by rw [mP, if_neg (by rw [unhide HTW]; simp), mAt_fst, hLL]
              have HME := hide hmE
              have HMP := hide hmP
              clear hmE hmP
              rw [← hLL] at ck
              have HSG2 : Hid (RSigsAt w1 (Value.slice va L.length vcap) L) := hide (by have := unhide HSG; rw [← hLL] at this; exact this)
              have hlen : L.length ≤ 8 := by rw [hLL]; exact (unhide OKk).len
              have HSO : Hid (∀ k, k < L.length → (sgAt L k).Ok) := hide (by rw [hLL]; exact sigs_ok (unhide OKk))
              clear hLL hb2
              have ckw := ck _ (unhide HB2)
              go_wp2
              clear ckw
              obtain ⟨wo2, rfl⟩ : ∃ wo : World, wo = wr := ⟨_, rfl⟩
              go_loopw [9, 10] (fun i _ wr => ∃ n : Nat, n ≤ L.length ∧ i = .int .i64 n ∧ (∀ j, j < n → decide (errAt L (mgAt P m).1.sz j ≠ 0) = false) ∧ Below w1.heap.size w1 wr) (fun i _ _ => L.length - (intOf i).toNat)
              case atStart => exact ⟨0, by omega, rfl, by intro j hj; omega, unhide HB2⟩
              case round =>
                obtain ⟨n, hn, rfl, hno3, hb3⟩ := hrel
                have HN3 := hide hno3
                have HB3 := hide hb3
                have ckw := ck _ hb3
                clear hno3 hb3
                by_cases hlt3 : n < L.length
                · go_wp2_with fail
                  refine (rWrong_any (mgAt P m).1.id (mgAt P m).1.sz _ _ L n _ (ownsRow_below (unhide HSG2) (unhide HB3)) hlen hlt3 (unhide HSO) (unhide OKk).sz0 (unhide OKk).sz1).mono ?_
                  rintro e w4 ⟨rfl, hb4⟩
                  have hb4' := (unhide HB3).trans (hb4.mono (unhide HB3).size)
                  rw [← errAt_eq L _ n hlt3]
                  clear hb4 ckw
                  by_cases hz : errAt L (mgAt P m).1.sz n = 0
                  · have hz2 : (errAt L (mgAt P m).1.sz n != 0) = false := by rw [hz]; rfl
                    have HZ := hide hz
                    clear hz
                    go_wp2
                    go_roundw
                    case rel => exact ⟨n + 1, by omega, by go_num, fun j hj => by
                        by_cases e : j = n
                        · subst e; simpa using unhide HZ
                        · exact unhide HN3 j (by omega), hb4'⟩
                    case measure => simp [intOf]; omega
                  · have hz2 : (errAt L (mgAt P m).1.sz n != 0) = true := by simpa using hz
                    have HZ := hide hz
                    clear hz
                    rcases (unhide HSG2).opened with ⟨hnil, _⟩ | ⟨g2, cap2, hv2, hg2, hcap2, hcm2, hc2⟩
                    · rw [hnil] at hlt3; simp at hlt3
                    cases hv2
                    have HC2 := hide hc2
                    clear hc2
                    have cn := fun (wx : World) (h : Below w1.heap.size w1 wx) => (rcells7 (k := n) (unhide HC2) hg2 h hlt3).2.2.2.2.2.2
                    have hk0 : (0 : Int) ≤ (n : Int) := by omega
                    have hk1 : (n : Int) < (L.length : Int) := by omega
                    go_wp2
                    refine wp_region_noPanic ?_
                    refine wp_region_held_drew (S := fun w' => Below w1.heap.size w1 w') (by kernel_rfl) hb4'.drew (fun hHeld => ?_)
                    refine wpAnyH_take (i := 0) (v := ?_) (at_list rfl) (by kernel_rfl) (by kernel_rfl) (by kernel_rfl) (fun _ _ _ h => h) (Or.inl ⟨by rfl, ?_⟩) (by assumption) ?_
                    rotate_left
                    · intro w hSw; (try dsimp only at hSw); first | (go_simp; done) | (go_simp; with_reducible rfl)
                    try simp only [Act.put]
                    try simp only [List.setIfInBounds_toArray]
                    try simp only [List.set_cons_succ]
                    try simp only [List.set_cons_zero]
                    refine wpAnyH_take (i := 1) (v := ?_) (at_list rfl) (by kernel_rfl) (by kernel_rfl) (by kernel_rfl) (fun _ _ _ h => h) (Or.inl ⟨by rfl, ?_⟩) (by assumption) ?_
                    rotate_left
                    · intro w hSw; (try dsimp only at hSw); first | (go_simp; done) | (go_simp; with_reducible rfl)
                    try simp only [Act.put]
                    try simp only [List.setIfInBounds_toArray]
                    try simp only [List.set_cons_succ]
                    try simp only [List.set_cons_zero]
                    refine wpAnyH_take (i := 2) (v := ?_) (at_list rfl) (by kernel_rfl) (by kernel_rfl) (by kernel_rfl) (fun _ _ _ h => h) (Or.inl ⟨by rfl, ?_⟩) (by assumption) ?_
                    rotate_left
                    · intro w hSw; (try dsimp only at hSw); first | (go_simp; done) | (go_simp; with_reducible rfl)
                    try simp only [Act.put]
                    try simp only [List.setIfInBounds_toArray]
                    try simp only [List.set_cons_succ]
                    try simp only [List.set_cons_zero]
                    refine wpAnyH_take (i := 3) (v := ?_) (at_list rfl) (by kernel_rfl) (by kernel_rfl) (by kernel_rfl) (fun _ _ _ h => h) (Or.inl ⟨by rfl, ?_⟩) (by assumption) ?_
                    rotate_left
                    · intro w hSw; (try dsimp only at hSw); first | (go_simp; done) | (go_simp; with_reducible rfl)
                    try simp only [Act.put]
                    try simp only [List.setIfInBounds_toArray]
                    try simp only [List.set_cons_succ]
                    try simp only [List.set_cons_zero]
                    refine wpAnyH_take (i := 4) (v := ?_) (at_list rfl) (by kernel_rfl) (by kernel_rfl) (by kernel_rfl) (fun _ _ _ h => h) (Or.inl ⟨by rfl, ?_⟩) (by assumption) ?_
                    rotate_left
                    · intro w hSw; (try dsimp only at hSw); first | (go_simp; done) | (go_simp; with_reducible rfl)
                    try simp only [Act.put]
                    try simp only [List.setIfInBounds_toArray]
                    try simp only [List.set_cons_succ]
                    try simp only [List.set_cons_zero]
                    refine wpAnyH_take (i := 5) (v := ?_) (at_list rfl) (by kernel_rfl) (by kernel_rfl) (by kernel_rfl) (fun _ _ _ h => h) (Or.inl ⟨by rfl, ?_⟩) (by assumption) ?_
                    rotate_left
                    · intro w hSw; (try dsimp only at hSw); first | (go_simp; done) | (go_simp; with_reducible rfl)
                    try simp only [Act.put]
                    try simp only [List.setIfInBounds_toArray]
                    try simp only [List.set_cons_succ]
                    try simp only [List.set_cons_zero]
                    refine wpAnyH_take (i := 6) (v := ?_) (at_list rfl) (by kernel_rfl) (by kernel_rfl) (by kernel_rfl) (fun _ _ _ h => h) (Or.inl ⟨by rfl, ?_⟩) (by assumption) ?_
                    rotate_left
                    · intro w hSw; (try dsimp only at hSw); first | (go_simp; done) | (go_simp; with_reducible rfl)
                    try simp only [Act.put]
                    try simp only [List.setIfInBounds_toArray]
                    try simp only [List.set_cons_succ]
                    try simp only [List.set_cons_zero]
                    refine wpAnyH_take (i := 7) (v := ?_) (at_list rfl) (by kernel_rfl) (by kernel_rfl) (by kernel_rfl) (fun _ _ _ h => h) (Or.inl ⟨by rfl, ?_⟩) (by assumption) ?_
                    rotate_left
                    · intro w hSw; (try dsimp only at hSw); first | (go_simp; done) | (go_simp; with_reducible rfl)
                    try simp only [Act.put]
                    try simp only [List.setIfInBounds_toArray]
                    try simp only [List.set_cons_succ]
                    try simp only [List.set_cons_zero]
                    refine wpAnyH_take (i := 8) (v := ?_) (at_list rfl) (by kernel_rfl) (by kernel_rfl) (by kernel_rfl) (fun _ _ _ h => h) (Or.inl ⟨by rfl, ?_⟩) (by assumption) ?_
                    rotate_left
                    · intro w hSw; (try dsimp only at hSw); first | (go_simp; done) | (go_simp; with_reducible rfl)
                    try simp only [Act.put]
                    try simp only [List.setIfInBounds_toArray]
                    try simp only [List.set_cons_succ]
                    try simp only [List.set_cons_zero]
                    refine wpAnyH_take (i := 9) (v := ?_) (at_list rfl) (by kernel_rfl) (by kernel_rfl) (by kernel_rfl) (fun _ _ _ h => h) (Or.inl ⟨by rfl, ?_⟩) (by assumption) ?_
                    rotate_left
                    · intro w hSw; (try dsimp only at hSw); first | (go_simp; done) | (go_simp; with_reducible rfl)
                    try simp only [Act.put]
                    try simp only [List.setIfInBounds_toArray]
                    try simp only [List.set_cons_succ]
                    try simp only [List.set_cons_zero]
                    refine wpAnyH_take (i := 10) (v := ?_) (at_list rfl) (by kernel_rfl) (by kernel_rfl) (by kernel_rfl) (fun _ _ _ h => h) (Or.inl ⟨by rfl, ?_⟩) (by assumption) ?_
                    rotate_left
                    · intro w hSw; (try dsimp only at hSw); first | (go_simp; done) | (go_simp; with_reducible rfl)
                    try simp only [Act.put]
                    try simp only [List.setIfInBounds_toArray]
                    try simp only [List.set_cons_succ]
                    try simp only [List.set_cons_zero]
                    refine wpAnyH_take (i := 11) (v := ?_) (at_list rfl) (by kernel_rfl) (by kernel_rfl) (by kernel_rfl) (fun _ _ _ h => h) (Or.inl ⟨by rfl, ?_⟩) (by assumption) ?_
                    rotate_left
                    · intro w hSw; (try dsimp only at hSw); first | (go_simp; done) | (go_simp; with_reducible rfl)
                    try simp only [Act.put]
                    try simp only [List.setIfInBounds_toArray]
                    try simp only [List.set_cons_succ]
                    try simp only [List.set_cons_zero]
                    refine wpAnyH_done (by kernel_rfl) ?_ _
                    refine NoPanic.normal ?_
                    go_wp2
                    go_ret2
                    have hx3 : errIx L (mgAt P m).1.sz = n := firstIx_is (unhide HN3) hlt3 (by simpa using unhide HZ)
                    have hx : errDbIx (P.map Prod.fst) = m := firstIx_is (unhide HN) (by simpa using hlt) (by rw [unhide HME, (errSigs_is hx3 hlt3).1]; simpa using unhide HZ)
                    exact ⟨by rw [(unhide HC).1, (unhide HC).2, (errDb_is hx (by simpa using hlt)).1, (errDb_is hx (by simpa using hlt)).2, unhide HME, unhide HMP, (errSigs_is hx3 hlt3).1, (errSigs_is hx3 hlt3).2]; rfl, (unhide HB1).trans (Below.mono (by assumption) (unhide HB1).size)⟩
                · go_wp2
                  go_roundw
                  case rel => exact ⟨m + 1, by omega, by go_num, fun j hj => by
                      by_cases e : j = m
                      · subst e
                        have hx3 : errIx L (mgAt P j).1.sz = L.length := firstIx_none (fun j hj => unhide HN3 j (by omega))
                        rw [unhide HME, (errSigs_none hx3).1]; rfl
                      · exact unhide HN j (by omega), unhide HB3⟩
                  case measure => simp [intOf]; omega
        · go_wp2
          go_ret2
          have hx : errDbIx (P.map Prod.fst) = (P.map Prod.fst).length := firstIx_none (fun j hj => unhide HN j (by simp at hj; omega))
          exact ⟨by rw [(unhide HC).1, (unhide HC).2, (errDb_none hx).1, (errDb_none hx).2]; rfl, (unhide HB1).trans ((unhide HB).mono (unhide HB1).size)⟩

end Go.Proofs.Ytoihlnjcgopdlaa

namespace Go.Proofs.Ytoihlnjcgopdlaa
open Go.RowKit


set_option maxHeartbeats 400000 in
theorem isActive_any (a0 a1 st ln od a5 rl c : Int) (w : World) (h0 : 0 ≤ rl) (h1 : rl ≤ 255) :
    Calls Try.prog 73 #[.agg #[.int .i64 a0, .int .u8 a1, .int .i64 st, .int .i64 ln, .int .u8 od, .int .u8 a5, .int .u8 rl], .int .i64 c] w
      fun e w' => e = .returned (.bool (activeB rl c)) ∧ Below w.heap.size w w' := by
  cases hd : isDigB rl with
  | false =>
    have HA := hide (show activeB rl c = true by rw [activeB, hd]; rfl)
    go_enter Try.func73, Try.ntmps73
    go_wp2_with (go_at_call 95; refine (isDigit_any _ _).mono ?_; rintro e w' ⟨rfl, rfl⟩)
    go_ret
    exact ⟨ret_bool (by rw [unhide HA]), (Below.refl _ _).alloc (Nat.le_refl _) _⟩
  | true =>
    have HW := hide (show (worth rl == c) = activeB rl c by
      simp [isDigB] at hd
      rw [activeB, dig_worth hd.1 hd.2, show isDigB rl = true by simp [isDigB]; omega, beq_dec]; rfl)
    go_enter Try.func73, Try.ntmps73
    go_wp2_with (first | (go_at_call 95; refine (isDigit_any _ _).mono ?_; rintro e w' ⟨rfl, rfl⟩) | (go_at_call 94; refine (digitWorth_any _ _ h0 h1).mono ?_; rintro e w' ⟨rfl, rfl⟩))
    go_ret
    exact ⟨ret_bool (by rw [unhide HW]), (Below.refl _ _).alloc (Nat.le_refl _) _⟩

set_option maxHeartbeats 400000 in
theorem inRange_any (v ln : Int) (sg : Bool) (w : World) (h0 : 1 ≤ ln) (h1 : ln ≤ 32) :
    Calls Try.prog 83 #[.int .i64 v, .int .i64 ln, .bool sg] w fun e w' => e = .returned (.bool (fitsB (if sg then 115 else 117) ln v)) ∧ w = w' := by
  have hp := pow_half ln h0
  have hl := half_pos ln
  have hu := half_le ln h1
  cases sg
  · simp only [Bool.false_eq_true, if_false]
    have HF := hide (show fitsB 117 ln v = (decide (0 ≤ v) && decide (v < 2 * half ln)) by simp [fitsB])
    obtain ⟨hh, HH⟩ : ∃ x, Hid (x = half ln) := ⟨_, hide rfl⟩
    rw [← unhide HH] at hp hl hu
    go_enter Try.func83, Try.ntmps83
    go_wp2
    all_goals (go_ret; exact ⟨ret_bool (by rw [unhide HF, ← unhide HH, Bool.eq_iff_iff]; simp; try omega), rfl⟩)
  · simp only [if_true]
    have HF := hide (show fitsB 115 ln v = (decide (-(half ln) ≤ v) && decide (v < half ln)) by simp [fitsB])
    obtain ⟨hh, HH⟩ : ∃ x, Hid (x = half ln) := ⟨_, hide rfl⟩
    rw [← unhide HH] at hp hl hu
    go_enter Try.func83, Try.ntmps83
    go_wp2
    all_goals (go_ret; exact ⟨ret_bool (by rw [unhide HF, ← unhide HH, Bool.eq_iff_iff]; simp; try omega), rfl⟩)

set_option maxHeartbeats 400000 in
theorem extended_any (v ln : Int) (w : World) (h0 : 1 ≤ ln) (h1 : ln ≤ 32) :
    Calls Try.prog 82 #[.int .i64 v, .int .i64 ln] w fun e w' => e = .returned (.int .i64 (extV v ln)) ∧ w = w' := by
  have hp := pow_half ln h0
  have hl := half_pos ln
  have hu := half_le ln h1
  have hand := and_mask v ln.toNat (by omega)
  rw [hp] at hand
  have hm0 : 0 ≤ v % (2 * half ln) := Int.emod_nonneg _ (by omega)
  have hm1 : v % (2 * half ln) < 2 * half ln := Int.emod_lt_of_pos _ (by omega)
  have HF := hide (show extV v ln = if half ln ≤ v % (2 * half ln) then v % (2 * half ln) - 2 * half ln else v % (2 * half ln) from rfl)
  obtain ⟨hh, HH⟩ : ∃ x, Hid (x = half ln) := ⟨_, hide rfl⟩
  rw [← unhide HH] at hp hl hu hand hm0 hm1 HF
  generalize v % (2 * hh) = y at *
  by_cases hge : hh ≤ y
  · go_enter Try.func82, Try.ntmps82
    go_wp2
    go_ret
    exact ⟨ret_int (by rw [unhide HF, if_pos hge]), rfl⟩
  · go_enter Try.func82, Try.ntmps82
    go_wp2
    go_ret
    exact ⟨ret_int (by rw [unhide HF, if_neg (by omega)]), rfl⟩

set_option maxHeartbeats 400000 in
theorem fits_any (a0 a1 st ln od kd rl v : Int) (w : World) (h0 : 1 ≤ ln) (h1 : ln ≤ 32) (h2 : kd = 117 ∨ kd = 115) :
    Calls Try.prog 74 #[.agg #[.int .i64 a0, .int .u8 a1, .int .i64 st, .int .i64 ln, .int .u8 od, .int .u8 kd, .int .u8 rl], .int .i64 v] w
      fun e w' => e = .returned (.bool (fitsB kd ln v)) ∧ Below w.heap.size w w' := by
  rcases h2 with rfl | rfl
  · go_enter Try.func74, Try.ntmps74
    go_wp2_with (go_at_call 83; refine (inRange_any v ln _ _ h0 h1).mono ?_; rintro e w' ⟨rfl, rfl⟩)
    go_ret
    exact ⟨rfl, (Below.refl _ _).alloc (Nat.le_refl _) _⟩
  · go_enter Try.func74, Try.ntmps74
    go_wp2_with (go_at_call 83; refine (inRange_any v ln _ _ h0 h1).mono ?_; rintro e w' ⟨rfl, rfl⟩)
    go_ret
    exact ⟨rfl, (Below.refl _ _).alloc (Nat.le_refl _) _⟩

set_option maxHeartbeats 400000 in
theorem rFits_any (v ln kd : Int) (w : World) (h0 : 1 ≤ ln) (h1 : ln ≤ 32) (h2 : kd = 117 ∨ kd = 115) :
    Calls Try.prog 45 #[.int .i64 v, .int .i64 ln, .bool (decide (kd = 115))] w fun e w' => e = .returned (.bool (fitsB kd ln v)) ∧ w' = w := by
  have hp := pow_half ln h0
  have hp2 := pow_half2 ln
  have hl := half_pos ln
  have hu := half_le ln h1
  rcases h2 with rfl | rfl
  · have HF := hide (show fitsB 117 ln v = (decide (0 ≤ v) && decide (v < 2 * half ln)) by simp [fitsB])
    obtain ⟨hh, HH⟩ : ∃ x, Hid (x = half ln) := ⟨_, hide rfl⟩
    rw [← unhide HH] at hp hl hu hp2
    rw [show decide ((117 : Int) = 115) = false from rfl]
    go_enter Try.func45, Try.ntmps45
    go_wp2
    all_goals (go_ret; exact ⟨ret_bool (by rw [unhide HF, ← unhide HH, Bool.eq_iff_iff]; simp; try omega), rfl⟩)
  · have HF := hide (show fitsB 115 ln v = (decide (-(half ln) ≤ v) && decide (v < half ln)) by simp [fitsB])
    obtain ⟨hh, HH⟩ : ∃ x, Hid (x = half ln) := ⟨_, hide rfl⟩
    rw [← unhide HH] at hp hl hu hp2
    rw [show decide ((115 : Int) = 115) = true from rfl]
    go_enter Try.func45, Try.ntmps45
    go_wp2
    all_goals (go_ret; exact ⟨ret_bool (by rw [unhide HF, ← unhide HH, Bool.eq_iff_iff]; simp; try omega), rfl⟩)

set_option maxHeartbeats 400000 in
theorem rActive_any (id : ByteArray) (sz pl : Int) (v : Value) (L : List Sg) (i : Nat) (c : Int) (w : World) (h : RSigsAt w v L) (hl : L.length ≤ 8) (hi : i < L.length) (hr0 : 0 ≤ (sgAt L i).rl) (hr1 : (sgAt L i).rl ≤ 255) :
    Calls Try.prog 26 #[.agg #[.string id, .int .i64 sz, v, .int .i64 pl], .int .i64 i, .int .i64 c] w fun e w' => e = .returned (.bool (activeB (sgAt L i).rl c)) ∧ Below w.heap.size w w' := by
  rcases h.opened with ⟨rfl, a, cc, rfl⟩ | ⟨g, cap, rfl, hg, hcap, _, hc⟩
  · simp at hi
  have hc5 : ∀ o : Obj, (w.alloc o).cell? ⟨g, i * 7 + 5, none⟩ = some (.int .u8 (sgAt L i).rl) := fun o => by rw [alloc_cell hg]; exact hc i 5 hi (by omega)
  clear hc
  cases hd : isDigB (sgAt L i).rl with
  | false =>
    have HA := hide (show activeB (sgAt L i).rl c = true by rw [activeB, hd]; rfl)
    go_enter Try.func26, Try.ntmps26
    go_wp2_with (go_at_call 51; refine (rIsDigit_any _ _).mono ?_; rintro e w' ⟨rfl, rfl⟩)
    go_ret
    exact ⟨ret_bool (by rw [unhide HA]), (Below.refl _ _).alloc (Nat.le_refl _) _⟩
  | true =>
    have hd2 := hd
    simp [isDigB] at hd2
    obtain ⟨hd3, hd4⟩ := hd2
    have HW := hide (show (c == (sgAt L i).rl - 48) = activeB (sgAt L i).rl c by
      rw [activeB, hd, Bool.eq_iff_iff]; simp; omega)
    go_enter Try.func26, Try.ntmps26
    go_wp2_with (go_at_call 51; refine (rIsDigit_any _ _).mono ?_; rintro e w' ⟨rfl, rfl⟩)
    go_ret
    exact ⟨ret_bool (by rw [← unhide HW]), (Below.refl _ _).alloc (Nat.le_refl _) _⟩

end Go.Proofs.Ytoihlnjcgopdlaa

namespace Go.Proofs.Ytoihlnjcgopdlaa
open Go.RowKit

def inAt (L : List Ins) (k : Nat) : Ins := L.getD k ⟨0, 0, 0, 0, 0⟩
theorem inAt_eq (L : List Ins) (k : Nat) (h : k < L.length) : inAt L k = L[k] := by simp [inAt, h]
theorem inAt_some (L : List Ins) (k : Nat) (h : k < L.length) : L[k]? = some (inAt L k) := by rw [inAt_eq L k h]; simp [h]
theorem drop_inAt (L : List Ins) (k : Nat) (h : k < L.length) : L.drop k = inAt L k :: L.drop (k + 1) := by
  rw [inAt_eq L k h]; exact List.drop_eq_getElem_cons h

theorem InsAt.opened {w : World} {v : Value} {L : List Ins} (h : InsAt w v L) :
    (L = [] ∧ (∃ a c, v = .slice a 0 c)) ∨ ∃ g cap, v = .slice (some ⟨g, 0, none⟩) L.length cap ∧ g < w.heap.size ∧ L.length ≤ cap ∧ cap ≤ maxLen ∧
      ∀ k j, k < L.length → j < 5 → w.cell? ⟨g, k * 5 + j, none⟩ = (inAt L k).cells[j]? := by
  have h' := h
  obtain ⟨hl, h2⟩ := h
  rcases h2 with ⟨rfl, hn⟩ | ⟨g, cap, cur, rfl, _, hg, hnc, hcm, hcs, ht⟩
  · exact .inl ⟨List.eq_nil_of_length_eq_zero hn, _, _, rfl⟩
  · refine .inr ⟨g, cap, rfl, (Array.getElem?_eq_some_iff.1 hg).1, hnc, hcm, fun k j hk hj => ?_⟩
    obtain ⟨g', cap', e1, e2, _⟩ := row_cell h' (k * 5 + j) (by omega)
    cases e1
    rw [e2, flat_get Ins.cells 5 (fun _ => rfl) L k j hk hj, inAt_eq L k hk]
theorem cells5 {w wx : World} {g : Nat} {L : List Ins} (hc : ∀ k j, k < L.length → j < 5 → w.cell? ⟨g, k * 5 + j, none⟩ = (inAt L k).cells[j]?) (hg : g < w.heap.size) (hb : Below w.heap.size w wx) {k : Nat} (hk : k < L.length) :
    wx.cell? ⟨g, k * 5, none⟩ = some (.int .u8 (inAt L k).op) ∧ wx.cell? ⟨g, k * 5 + 1, none⟩ = some (.int .i64 (inAt L k).r) ∧ wx.cell? ⟨g, k * 5 + 2, none⟩ = some (.int .i64 (inAt L k).b) ∧ wx.cell? ⟨g, k * 5 + 3, none⟩ = some (.int .i64 (inAt L k).k) ∧ wx.cell? ⟨g, k * 5 + 4, none⟩ = some (.int .i64 (inAt L k).n) := by
  refine ⟨?_, ?_, ?_, ?_, ?_⟩
  · rw [hb.cell (p := ⟨g, k * 5, none⟩) hg]; exact hc k 0 hk (by omega)
  · rw [hb.cell (p := ⟨g, k * 5 + 1, none⟩) hg]; exact hc k 1 hk (by omega)
  · rw [hb.cell (p := ⟨g, k * 5 + 2, none⟩) hg]; exact hc k 2 hk (by omega)
  · rw [hb.cell (p := ⟨g, k * 5 + 3, none⟩) hg]; exact hc k 3 hk (by omega)
  · rw [hb.cell (p := ⟨g, k * 5 + 4, none⟩) hg]; exact hc k 4 hk (by omega)

set_option maxRecDepth 100000 in
set_option maxHeartbeats 4000000 in
theorem run_any (g : Nat) (vp : Value) (L : List Ins) (s : St) (w0 w : World) (hp : InsAt w0 vp L) (h0 : w0.heap.size ≤ g) (hb0 : Below w0.heap.size w0 w) (hm : MachAt w g s) (hN : s.N < 18446744073709551616) (hf : Fine L) (hl : L.length ≤ 96) :
    Calls Try.prog 56 #[.pointer (some ⟨g, 0, none⟩), vp] w fun e w' => e = .returned (.tuple #[.int .i64 (runL L s).2.1, .int .i64 (runL L s).2.2]) ∧ MachAt w' g (runL L s).1 ∧ (runL L s).1.N < 18446744073709551616 ∧ Below g w w' := by
  rcases hp.opened with ⟨rfl, a, cc, rfl⟩ | ⟨gp, cap, rfl, hgp, hcap, hcm, hc⟩
  · go_enter Try.func56, Try.ntmps56
    go_wp2
    refine wp_loop_rounds 1 ?_
    rw [rounds_succ]
    go_wp2
    go_ret2
    exact ⟨rfl, hm, hN, Below.refl _ _⟩
  have HP := hide hc
  have HB0 := hide hb0
  have HM := hide hm
  have HN := hide hN
  have HF := hide hf
  clear hc hb0 hm hN hf hp
  go_enter Try.func56, Try.ntmps56
  go_wp2
  go_loopw [6] (fun i wr => ∃ (a : Nat) (S : St), i = .int .i64 a ∧ a ≤ L.length ∧ MachAt wr g S ∧ S.N < 18446744073709551616 ∧ Below g w wr ∧ runL (L.drop a) S = runL L s) (fun i _ => L.length - (intOf i).toNat)
  case atStart => exact ⟨0, s, rfl, by omega, unhide HM, unhide HN, Below.refl _ _, rfl⟩
  case round =>
    obtain ⟨a, S, rfl, ha, hma, hSN, hbw, hrun⟩ := hrel
    have HMA := hide hma
    have HSN := hide hSN
    have HBW := hide hbw
    have HRUN := hide hrun
    clear hma hSN hbw hrun
    by_cases hlt : a < L.length
    · obtain ⟨x, HX⟩ : ∃ x, Hid (x = inAt L a) := ⟨_, hide rfl⟩
      have hcx := cells5 (unhide HP) hgp ((unhide HB0).trans ((unhide HBW).mono h0)) hlt
      rw [← unhide HX] at hcx
      obtain ⟨hbyt, hkn⟩ := unhide HF a x (by rw [unhide HX]; exact inAt_some L a hlt)
      rw [drop_inAt L a hlt, ← unhide HX, runL_cons] at HRUN
      obtain ⟨op, r, b, k, n⟩ := x
      obtain ⟨c0, c1, c2, c3, c4⟩ := hcx
      have HKN := hide hkn
      have HBY := hide hbyt
      have hr7 := known_r hkn
      have hop := known_op hkn
      simp only at hr7 hop c0 c1 c2 c3 c4
      have hr0 : 0 ≤ r := hbyt.r0
      obtain ⟨q, rfl⟩ : ∃ q : Nat, r = q := ⟨r.toNat, by omega⟩
      have hq : q < 8 := by omega
      clear hkn hbyt
      have hi0 : (0 : Int) ≤ (a : Int) := by omega
      have hi1 : (a : Int) < (L.length : Int) := by omega
      have hreg := (unhide HMA).reg hq
      have hlg := (unhide HMA).lt
      have hbx := fun (wx : World) (h : Below (wr.heap.size + 1) (wr.alloc (.cells #[.int .u8 op, .int .i64 q, .int .i64 b, .int .i64 k, .int .i64 n] 128)) wx) => box_cell h
      have hrg : ∀ wx : World, Below (wr.heap.size + 1) (wr.alloc (.cells #[.int .u8 op, .int .i64 q, .int .i64 b, .int .i64 k, .int .i64 n] 128)) wx → wx.cell? ⟨g, q, none⟩ = some (.int .i64 (S.reg q)) := fun wx h => by
        rw [(box_below h).cell (p := ⟨g, q, none⟩) hlg]; exact hreg
      go_wp2
      refine wp_region_noPanic ?_
      refine wp_region_held_drew (S := fun wx => Below (wr.heap.size + 1) (wr.alloc (.cells #[.int .u8 op, .int .i64 q, .int .i64 b, .int .i64 k, .int .i64 n] 128)) wx) (by kernel_rfl) ((Below.refl _ _).drew) (fun hHeld => ?_)
      refine wpAnyH_take (i := 0) (v := ?_) (at_list rfl) (by kernel_rfl) (by kernel_rfl) (by kernel_rfl) (fun _ _ _ h => h) (Or.inl ⟨by rfl, ?_⟩) (by assumption) ?_
      rotate_left
      · intro w hSw; (try dsimp only at hSw); first | (go_simp; done) | (go_simp; with_reducible rfl)
      try simp only [Act.put]
      try simp only [List.setIfInBounds_toArray]
      try simp only [List.set_cons_succ]
      try simp only [List.set_cons_zero]
      refine wpAnyH_take (i := 1) (v := ?_) (at_list rfl) (by kernel_rfl) (by kernel_rfl) (by kernel_rfl) (fun _ _ _ h => h) (Or.inl ⟨by rfl, ?_⟩) (by assumption) ?_
      rotate_left
      · intro w hSw; (try dsimp only at hSw); first | (go_simp; done) | (go_simp; with_reducible rfl)
      try simp only [Act.put]
      try simp only [List.setIfInBounds_toArray]
      try simp only [List.set_cons_succ]
      try simp only [List.set_cons_zero]
      refine wpAnyH_take (i := 2) (v := ?_) (at_list rfl) (by kernel_rfl) (by kernel_rfl) (by kernel_rfl) (fun _ _ _ h => h) (Or.inl ⟨by rfl, ?_⟩) (by assumption) ?_
      rotate_left
      · intro w hSw; (try dsimp only at hSw); first | (go_simp; done) | (go_simp; with_reducible rfl)
      try simp only [Act.put]
      try simp only [List.setIfInBounds_toArray]
      try simp only [List.set_cons_succ]
      try simp only [List.set_cons_zero]
      refine wpAnyH_take (i := 3) (v := ?_) (at_list rfl) (by kernel_rfl) (by kernel_rfl) (by kernel_rfl) (fun _ _ _ h => h) (Or.inl ⟨by rfl, ?_⟩) (by assumption) ?_
      rotate_left
      · intro w hSw; (try dsimp only at hSw); first | (go_simp; done) | (go_simp; with_reducible rfl)
      try simp only [Act.put]
      try simp only [List.setIfInBounds_toArray]
      try simp only [List.set_cons_succ]
      try simp only [List.set_cons_zero]
      refine wpAnyH_take (i := 4) (v := ?_) (at_list rfl) (by kernel_rfl) (by kernel_rfl) (by kernel_rfl) (fun _ _ _ h => h) (Or.inl ⟨by rfl, ?_⟩) (by assumption) ?_
      rotate_left
      · intro w hSw; (try dsimp only at hSw); first | (go_simp; done) | (go_simp; with_reducible rfl)
      try simp only [Act.put]
      try simp only [List.setIfInBounds_toArray]
      try simp only [List.set_cons_succ]
      try simp only [List.set_cons_zero]
      refine wpAnyH_take (i := 5) (v := ?_) (at_list rfl) (by kernel_rfl) (by kernel_rfl) (by kernel_rfl) (fun _ _ _ h => h) (Or.inl ⟨by rfl, ?_⟩) (by assumption) ?_
      rotate_left
      · intro w hSw; (try dsimp only at hSw); first | (go_simp; done) | (go_simp; with_reducible rfl)
      try simp only [Act.put]
      try simp only [List.setIfInBounds_toArray]
      try simp only [List.set_cons_succ]
      try simp only [List.set_cons_zero]
      refine wpAnyH_take (i := 6) (v := ?_) (at_list rfl) (by kernel_rfl) (by kernel_rfl) (by kernel_rfl) (fun _ _ _ h => h) (Or.inl ⟨by rfl, ?_⟩) (by assumption) ?_
      rotate_left
      · intro w hSw; (try dsimp only at hSw); first | (go_simp; done) | (go_simp; with_reducible rfl)
      try simp only [Act.put]
      try simp only [List.setIfInBounds_toArray]
      try simp only [List.set_cons_succ]
      try simp only [List.set_cons_zero]
      refine wpAnyH_take (i := 7) (v := ?_) (at_list rfl) (by kernel_rfl) (by kernel_rfl) (by kernel_rfl) (fun _ _ _ h => h) (Or.inl ⟨by rfl, ?_⟩) (by assumption) ?_
      rotate_left
      · intro w hSw; (try dsimp only at hSw); first | (go_simp; done) | (go_simp; with_reducible rfl)
      try simp only [Act.put]
      try simp only [List.setIfInBounds_toArray]
      try simp only [List.set_cons_succ]
      try simp only [List.set_cons_zero]
      refine wpAnyH_done (by kernel_rfl) ?_ _
      refine NoPanic.normal ?_
      have HBOX := hide (show (wr.alloc (.cells #[.int .u8 op, .int .i64 q, .int .i64 b, .int .i64 k, .int .i64 n] 128)).drew.heap[wr.heap.size]? = some (.cells #[.int .u8 op, .int .i64 q, .int .i64 b, .int .i64 k, .int .i64 n] 128 (0, 0)) from blk_new _ _)
      have HM7 := hide ((unhide HMA).bel (box_below hHeld))
      have HB7 := hide ((unhide HBW).trans ((box_below hHeld).mono (by omega)))
      have hsb : g ≠ wr.heap.size := by omega
      have hgs : g < (wr.alloc (.cells #[.int .u8 op, .int .i64 q, .int .i64 b, .int .i64 k, .int .i64 n] 128)).drew.heap.size := by have := (box_below hHeld).size; omega
      clear hrg hreg c0 c1 c2 c3 c4 hbx hHeld HMA HBW
      generalize (wr.alloc (.cells #[.int .u8 op, .int .i64 q, .int .i64 b, .int .i64 k, .int .i64 n] 128)).drew = w7 at *
      generalize wr.heap.size = sb at *
      have hk0 := (unhide HBY).k0
      have hb0 := (unhide HBY).b0
      have hn0 := (unhide HBY).n0
      simp only at hk0 hb0 hn0
      have hd := fun (wx : World) (h : wx.heap[sb]? = some (.cells #[.int .u8 op, .int .i64 q, .int .i64 b, .int .i64 k, .int .i64 n] 128 (0, 0))) => blk_cell h
      have hd7 := hd w7 (unhide HBOX)
      rcases hop with rfl | rfl | rfl | rfl | rfl | rfl
      · obtain ⟨n1, b1, h8, h32⟩ := known_move (unhide HKN) (.inl rfl)
        simp only at n1 b1 h8 h32
        have HR := hide (show runL (L.drop (a + 1)) { S with reg := upd S.reg q (putTo (low (S.reg q)) S.N k.toNat b.toNat n.toNat : Nat) } = runL L s by have := unhide HRUN; rw [act_get] at this; simpa using this)
        have hfr := fun (wx : World) (h : MachAt wx g S) => h.free q
        have hrc := fun (wx : World) (h : MachAt wx g S) => h.reg hq
        go_wp2
        clear hd7
        refine wp_region_noPanic ?_
        refine wp_region_held_drew (S := fun wx => wx.heap[sb]? = some (.cells #[.int .u8 71, .int .i64 q, .int .i64 b, .int .i64 k, .int .i64 n] 128 (0, 0)) ∧ wx.cell? ⟨g, 16, none⟩ = some (.int .u64 S.N)) (by kernel_rfl) ⟨unhide HBOX, (unhide HM7).bits⟩ (fun hHeld => ?_)
        have hd0 : ∀ wx : World, (wx.heap[sb]? = some (.cells #[.int .u8 71, .int .i64 q, .int .i64 b, .int .i64 k, .int .i64 n] 128 (0, 0)) ∧ wx.cell? ⟨g, 16, none⟩ = some (.int .u64 S.N)) → ∀ j, wx.cell? ⟨sb, j, none⟩ = _ := fun wx h => hd wx h.1
        have hd1 : ∀ wx : World, (wx.heap[sb]? = some (.cells #[.int .u8 71, .int .i64 q, .int .i64 b, .int .i64 k, .int .i64 n] 128 (0, 0)) ∧ wx.cell? ⟨g, 16, none⟩ = some (.int .u64 S.N)) → wx.cell? ⟨g, 16, none⟩ = some (.int .u64 S.N) := fun wx h => h.2
        refine wpAnyH_take (i := 0) (v := ?_) (at_list rfl) (by kernel_rfl) (by kernel_rfl) (by kernel_rfl) (fun _ _ _ h => h) (Or.inl ⟨by rfl, ?_⟩) (by assumption) ?_
        rotate_left
        · intro w hSw; (try dsimp only at hSw); first | (go_simp; done) | (go_simp; with_reducible rfl)
        try simp only [Act.put]
        try simp only [List.setIfInBounds_toArray]
        try simp only [List.set_cons_succ]
        try simp only [List.set_cons_zero]
        refine wpAnyH_take (i := 1) (v := ?_) (at_list rfl) (by kernel_rfl) (by kernel_rfl) (by kernel_rfl) (fun _ _ _ h => h) (Or.inl ⟨by rfl, ?_⟩) (by assumption) ?_
        rotate_left
        · intro w hSw; (try dsimp only at hSw); first | (go_simp; done) | (go_simp; with_reducible rfl)
        try simp only [Act.put]
        try simp only [List.setIfInBounds_toArray]
        try simp only [List.set_cons_succ]
        try simp only [List.set_cons_zero]
        refine wpAnyH_take (i := 2) (v := ?_) (at_list rfl) (by kernel_rfl) (by kernel_rfl) (by kernel_rfl) (fun _ _ _ h => h) (Or.inl ⟨by rfl, ?_⟩) (by assumption) ?_
        rotate_left
        · intro w hSw; (try dsimp only at hSw); first | (go_simp; done) | (go_simp; with_reducible rfl)
        try simp only [Act.put]
        try simp only [List.setIfInBounds_toArray]
        try simp only [List.set_cons_succ]
        try simp only [List.set_cons_zero]
        refine wpAnyH_take (i := 3) (v := ?_) (at_list rfl) (by kernel_rfl) (by kernel_rfl) (by kernel_rfl) (fun _ _ _ h => h) (Or.inl ⟨by rfl, ?_⟩) (by assumption) ?_
        rotate_left
        · intro w hSw; (try dsimp only at hSw); first | (go_simp; done) | (go_simp; with_reducible rfl)
        try simp only [Act.put]
        try simp only [List.setIfInBounds_toArray]
        try simp only [List.set_cons_succ]
        try simp only [List.set_cons_zero]
        refine wpAnyH_take (i := 4) (v := ?_) (at_list rfl) (by kernel_rfl) (by kernel_rfl) (by kernel_rfl) (fun _ _ _ h => h) (Or.inl ⟨by rfl, ?_⟩) (by assumption) ?_
        rotate_left
        · intro w hSw; (try dsimp only at hSw); first | (go_simp; done) | (go_simp; with_reducible rfl)
        try simp only [Act.put]
        try simp only [List.setIfInBounds_toArray]
        try simp only [List.set_cons_succ]
        try simp only [List.set_cons_zero]
        refine wpAnyH_take (i := 5) (v := ?_) (at_list rfl) (by kernel_rfl) (by kernel_rfl) (by kernel_rfl) (fun _ _ _ h => h) (Or.inl ⟨by rfl, ?_⟩) (by assumption) ?_
        rotate_left
        · intro w hSw; (try dsimp only at hSw); first | (go_simp; done) | (go_simp; with_reducible rfl)
        try simp only [Act.put]
        try simp only [List.setIfInBounds_toArray]
        try simp only [List.set_cons_succ]
        try simp only [List.set_cons_zero]
        refine wpAnyH_take (i := 6) (v := ?_) (at_list rfl) (by kernel_rfl) (by kernel_rfl) (by kernel_rfl) (fun _ _ _ h => h) (Or.inl ⟨by rfl, ?_⟩) (by assumption) ?_
        rotate_left
        · intro w hSw; (try dsimp only at hSw); first | (go_simp; done) | (go_simp; with_reducible rfl)
        try simp only [Act.put]
        try simp only [List.setIfInBounds_toArray]
        try simp only [List.set_cons_succ]
        try simp only [List.set_cons_zero]
        refine wpAnyH_take (i := 7) (v := ?_) (at_list rfl) (by kernel_rfl) (by kernel_rfl) (by kernel_rfl) (fun _ _ _ h => h) (Or.inl ⟨by rfl, ?_⟩) (by assumption) ?_
        rotate_left
        · intro w hSw; (try dsimp only at hSw); first | (go_simp; done) | (go_simp; with_reducible rfl)
        try simp only [Act.put]
        try simp only [List.setIfInBounds_toArray]
        try simp only [List.set_cons_succ]
        try simp only [List.set_cons_zero]
        refine wpAnyH_take (i := 8) (v := ?_) (at_list rfl) (by kernel_rfl) (by kernel_rfl) (by kernel_rfl) (fun _ _ _ h => h) (Or.inl ⟨by rfl, ?_⟩) (by assumption) ?_
        rotate_left
        · intro w hSw; (try dsimp only at hSw); first | (go_simp; done) | (go_simp; with_reducible rfl)
        try simp only [Act.put]
        try simp only [List.setIfInBounds_toArray]
        try simp only [List.set_cons_succ]
        try simp only [List.set_cons_zero]
        refine wpAnyH_take (i := 10) (v := ?_) (at_list rfl) (by kernel_rfl) (by kernel_rfl) (by kernel_rfl) (fun _ _ _ h => h) (Or.inl ⟨by rfl, ?_⟩) (by assumption) ?_
        rotate_left
        · intro w hSw; (try dsimp only at hSw); first | (go_simp; done) | (go_simp; with_reducible rfl)
        try simp only [Act.put]
        try simp only [List.setIfInBounds_toArray]
        try simp only [List.set_cons_succ]
        try simp only [List.set_cons_zero]
        refine wpAnyH_take (i := 11) (v := ?_) (at_list rfl) (by kernel_rfl) (by kernel_rfl) (by kernel_rfl) (fun _ _ _ h => h) (Or.inl ⟨by rfl, ?_⟩) (by assumption) ?_
        rotate_left
        · intro w hSw; (try dsimp only at hSw); first | (go_simp; done) | (go_simp; with_reducible rfl)
        try simp only [Act.put]
        try simp only [List.setIfInBounds_toArray]
        try simp only [List.set_cons_succ]
        try simp only [List.set_cons_zero]
        refine wpAnyH_ready (rs := [9]) (by kernel_rfl) (by simp) ?_
        refine AllReadyH.cons (at_list rfl) (fun K hK => ?_) AllReadyH.nil
        go_simp
        refine (getBits_any S.N (S.reg q) 71 q b k n _ (unhide HSN) hb0 b1 n1 hk0 h32).mono ?_; rintro e w8 ⟨rfl, hb80⟩; have hb8 : Below w7.heap.size w7 w8 := (Below.refl w7.heap.size w7).drew.trans hb80; have HM8 := hide ((unhide HM7).bel hb8); have hS8 := And.intro (blk_below (unhide HBOX) hb8) (unhide HM8).bits; have HB8 := hide ((unhide HB7).trans (hb8.mono (Nat.le_of_lt hgs))); have hfr8 := hfr w8 (unhide HM8); have hrc8 := hrc w8 (unhide HM8); dsimp only
        refine hK.out _ _ (hS8) (fun hHeld => ?_)
        clear hK K
        try simp only [Act.put]
        try simp only [List.setIfInBounds_toArray]
        try simp only [List.set_cons_succ]
        try simp only [List.set_cons_zero]
        refine wpAnyH_take (i := 12) (v := ?_) (at_list rfl) (by kernel_rfl) (by kernel_rfl) (by kernel_rfl) (fun _ _ _ h => h) (Or.inl ⟨by rfl, ?_⟩) (by assumption) ?_
        rotate_left
        · intro w hSw; (try dsimp only at hSw); first | (go_simp; done) | (go_simp; with_reducible rfl)
        try simp only [Act.put]
        try simp only [List.setIfInBounds_toArray]
        try simp only [List.set_cons_succ]
        try simp only [List.set_cons_zero]
        have hS9 := And.intro (blk_set_other (j := q) (.int .i64 (putTo (low (S.reg q)) S.N k.toNat b.toNat n.toNat : Nat)) hHeld.1 hsb.symm) ((unhide HM8).setReg hq (putTo (low (S.reg q)) S.N k.toNat b.toNat n.toNat : Nat)).bits
        refine wpAnyH_ready (rs := [13]) (by kernel_rfl) (by simp) ?_
        refine AllReadyH.cons (at_list rfl) (fun K hK => ?_) AllReadyH.nil
        go_simp
        refine hK.out _ _ (hS9) (fun hHeld => ?_)
        clear hK K
        try simp only [Act.put]
        try simp only [List.setIfInBounds_toArray]
        try simp only [List.set_cons_succ]
        try simp only [List.set_cons_zero]
        refine wpAnyH_done (by kernel_rfl) ?_ _
        refine NoPanic.normal ?_
        clear hd0 hd1 hd hfr hrc
        go_wp2
        go_roundw
        case rel => exact ⟨a + 1, { S with reg := upd S.reg q (putTo (low (S.reg q)) S.N k.toNat b.toNat n.toNat : Nat) }, by go_num, by omega, (unhide HM8).setReg hq _, unhide HSN, (unhide HB8).setCell (Nat.le_refl _) _, unhide HR⟩
        case measure => simp [intOf]; omega
      · obtain ⟨n1, b1, h8, h32⟩ := known_move (unhide HKN) (.inr rfl)
        simp only at n1 b1 h8 h32
        have HR := hide (show runL (L.drop (a + 1)) { S with N := putTo S.N (low (S.reg q)) b.toNat k.toNat n.toNat } = runL L s by have := unhide HRUN; rw [act_put] at this; simpa using this)
        have HPN := hide (show putTo S.N (low (S.reg q)) b.toNat k.toNat n.toNat < 18446744073709551616 from putTo_lt (m := 64) _ _ _ _ (unhide HSN) (by omega))
        go_wp2
        clear hd7
        refine wp_region_noPanic ?_
        refine wp_region_held_drew (S := fun wx => wx.heap[sb]? = some (.cells #[.int .u8 80, .int .i64 q, .int .i64 b, .int .i64 k, .int .i64 n] 128 (0, 0))) (by kernel_rfl) (unhide HBOX) (fun hHeld => ?_)
        have hn7 : w7.drew.cell? ⟨g, 16, none⟩ = some (.int .u64 S.N) := (unhide HM7).bits
        refine wpAnyH_take (i := 0) (v := ?_) (at_list rfl) (by kernel_rfl) (by kernel_rfl) (by kernel_rfl) (fun _ _ _ h => h) (Or.inl ⟨by rfl, ?_⟩) (by assumption) ?_
        rotate_left
        · intro w hSw; (try dsimp only at hSw); first | (go_simp; done) | (go_simp; with_reducible rfl)
        try simp only [Act.put]
        try simp only [List.setIfInBounds_toArray]
        try simp only [List.set_cons_succ]
        try simp only [List.set_cons_zero]
        refine wpAnyH_take (i := 1) (v := ?_) (at_list rfl) (by kernel_rfl) (by kernel_rfl) (by kernel_rfl) (fun _ _ _ h => h) (Or.inl ⟨by rfl, ?_⟩) (by assumption) ?_
        rotate_left
        · intro w hSw; (try dsimp only at hSw); first | (go_simp; done) | (go_simp; with_reducible rfl)
        try simp only [Act.put]
        try simp only [List.setIfInBounds_toArray]
        try simp only [List.set_cons_succ]
        try simp only [List.set_cons_zero]
        refine wpAnyH_take (i := 2) (v := ?_) (at_list rfl) (by kernel_rfl) (by kernel_rfl) (by kernel_rfl) (fun _ _ _ h => h) (Or.inl ⟨by rfl, ?_⟩) (by assumption) ?_
        rotate_left
        · intro w hSw; (try dsimp only at hSw); first | (go_simp; done) | (go_simp; with_reducible rfl)
        try simp only [Act.put]
        try simp only [List.setIfInBounds_toArray]
        try simp only [List.set_cons_succ]
        try simp only [List.set_cons_zero]
        refine wpAnyH_take (i := 3) (v := ?_) (at_list rfl) (by kernel_rfl) (by kernel_rfl) (by kernel_rfl) (fun _ _ _ h => h) (Or.inl ⟨by rfl, ?_⟩) (by assumption) ?_
        rotate_left
        · intro w hSw; (try dsimp only at hSw); first | (go_simp; done) | (go_simp; with_reducible rfl)
        try simp only [Act.put]
        try simp only [List.setIfInBounds_toArray]
        try simp only [List.set_cons_succ]
        try simp only [List.set_cons_zero]
        refine wpAnyH_take (i := 5) (v := ?_) (at_list rfl) (by kernel_rfl) (by kernel_rfl) (by kernel_rfl) (fun _ _ _ h => h) (Or.inl ⟨by rfl, ?_⟩) (by assumption) ?_
        rotate_left
        · intro w hSw; (try dsimp only at hSw); first | (go_simp; done) | (go_simp; with_reducible rfl)
        try simp only [Act.put]
        try simp only [List.setIfInBounds_toArray]
        try simp only [List.set_cons_succ]
        try simp only [List.set_cons_zero]
        refine wpAnyH_take (i := 6) (v := ?_) (at_list rfl) (by kernel_rfl) (by kernel_rfl) (by kernel_rfl) (fun _ _ _ h => h) (Or.inl ⟨by rfl, ?_⟩) (by assumption) ?_
        rotate_left
        · intro w hSw; (try dsimp only at hSw); first | (go_simp; done) | (go_simp; with_reducible rfl)
        try simp only [Act.put]
        try simp only [List.setIfInBounds_toArray]
        try simp only [List.set_cons_succ]
        try simp only [List.set_cons_zero]
        refine wpAnyH_ready (rs := [4]) (by kernel_rfl) (by simp) ?_
        refine AllReadyH.cons (at_list rfl) (fun K hK => ?_) AllReadyH.nil
        go_simp
        refine hK.out _ _ (hHeld) (fun hHeld => ?_)
        clear hK K
        try simp only [Act.put]
        try simp only [List.setIfInBounds_toArray]
        try simp only [List.set_cons_succ]
        try simp only [List.set_cons_zero]
        refine wpAnyH_ready (rs := [7]) (by kernel_rfl) (by simp) ?_
        refine AllReadyH.cons (at_list rfl) (fun K hK => ?_) AllReadyH.nil
        go_simp
        refine (putBits_any S.N (S.reg q) 80 q b k n _ (unhide HSN) hb0 b1 n1 h8 hk0 h32).mono ?_; rintro e w8 ⟨rfl, hb80⟩; have hb8 : Below w7.heap.size w7 w8 := (Below.refl w7.heap.size w7).drew.trans hb80; have HM8 := hide ((unhide HM7).bel hb8); have hS8 := blk_below (unhide HBOX) hb8; have HB8 := hide ((unhide HB7).trans (hb8.mono (Nat.le_of_lt hgs))); have hfr8 := (unhide HM8).free 16; have hrc8 := (unhide HM8).bits; dsimp only
        refine hK.out _ _ (hS8) (fun hHeld => ?_)
        clear hK K
        try simp only [Act.put]
        try simp only [List.setIfInBounds_toArray]
        try simp only [List.set_cons_succ]
        try simp only [List.set_cons_zero]
        refine wpAnyH_take (i := 8) (v := ?_) (at_list rfl) (by kernel_rfl) (by kernel_rfl) (by kernel_rfl) (fun _ _ _ h => h) (Or.inl ⟨by rfl, ?_⟩) (by assumption) ?_
        rotate_left
        · intro w hSw; (try dsimp only at hSw); first | (go_simp; done) | (go_simp; with_reducible rfl)
        try simp only [Act.put]
        try simp only [List.setIfInBounds_toArray]
        try simp only [List.set_cons_succ]
        try simp only [List.set_cons_zero]
        refine wpAnyH_take (i := 9) (v := ?_) (at_list rfl) (by kernel_rfl) (by kernel_rfl) (by kernel_rfl) (fun _ _ _ h => h) (Or.inl ⟨by rfl, ?_⟩) (by assumption) ?_
        rotate_left
        · intro w hSw; (try dsimp only at hSw); first | (go_simp; done) | (go_simp; with_reducible rfl)
        try simp only [Act.put]
        try simp only [List.setIfInBounds_toArray]
        try simp only [List.set_cons_succ]
        try simp only [List.set_cons_zero]
        have hS9 := blk_set_other (j := 16) (.int .u64 (putTo S.N (low (S.reg q)) b.toNat k.toNat n.toNat : Nat)) hHeld hsb.symm
        refine wpAnyH_ready (rs := [10]) (by kernel_rfl) (by simp) ?_
        refine AllReadyH.cons (at_list rfl) (fun K hK => ?_) AllReadyH.nil
        go_simp
        refine hK.out _ _ (hS9) (fun hHeld => ?_)
        clear hK K
        try simp only [Act.put]
        try simp only [List.setIfInBounds_toArray]
        try simp only [List.set_cons_succ]
        try simp only [List.set_cons_zero]
        refine wpAnyH_done (by kernel_rfl) ?_ _
        refine NoPanic.normal ?_
        clear hd
        go_wp2
        go_roundw
        case rel => exact ⟨a + 1, { S with N := putTo S.N (low (S.reg q)) b.toNat k.toNat n.toNat }, by go_num, by omega, (unhide HM8).setBits _, unhide HPN, (unhide HB8).setCell (Nat.le_refl _) _, unhide HR⟩
        case measure => simp [intOf]; omega
      · obtain ⟨n1, h32⟩ := known_x (unhide HKN) rfl
        simp only at n1 h32
        have HR := hide (show runL (L.drop (a + 1)) { S with reg := upd S.reg q (extV (S.reg q) n) } = runL L s by have := unhide HRUN; rw [act_x] at this; simpa using this)
        go_wp2
        clear hd7
        refine wp_region_noPanic ?_
        refine wp_region_held_drew (S := fun wx => wx.heap[sb]? = some (.cells #[.int .u8 88, .int .i64 q, .int .i64 b, .int .i64 k, .int .i64 n] 128 (0, 0))) (by kernel_rfl) (unhide HBOX) (fun hHeld => ?_)
        have hb8 : Below w7.heap.size w7 w7.drew := (Below.refl w7.heap.size w7).drew
        have HM8 := hide ((unhide HM7).bel hb8)
        have HB8 := hide ((unhide HB7).trans (hb8.mono (Nat.le_of_lt hgs)))
        have hfr8 := (unhide HM8).free q
        have hrc8 := (unhide HM8).reg hq
        clear hb8
        refine wpAnyH_take (i := 0) (v := ?_) (at_list rfl) (by kernel_rfl) (by kernel_rfl) (by kernel_rfl) (fun _ _ _ h => h) (Or.inl ⟨by rfl, ?_⟩) (by assumption) ?_
        rotate_left
        · intro w hSw; (try dsimp only at hSw); first | (go_simp; done) | (go_simp; with_reducible rfl)
        try simp only [Act.put]
        try simp only [List.setIfInBounds_toArray]
        try simp only [List.set_cons_succ]
        try simp only [List.set_cons_zero]
        refine wpAnyH_take (i := 1) (v := ?_) (at_list rfl) (by kernel_rfl) (by kernel_rfl) (by kernel_rfl) (fun _ _ _ h => h) (Or.inl ⟨by rfl, ?_⟩) (by assumption) ?_
        rotate_left
        · intro w hSw; (try dsimp only at hSw); first | (go_simp; done) | (go_simp; with_reducible rfl)
        try simp only [Act.put]
        try simp only [List.setIfInBounds_toArray]
        try simp only [List.set_cons_succ]
        try simp only [List.set_cons_zero]
        refine wpAnyH_take (i := 2) (v := ?_) (at_list rfl) (by kernel_rfl) (by kernel_rfl) (by kernel_rfl) (fun _ _ _ h => h) (Or.inl ⟨by rfl, ?_⟩) (by assumption) ?_
        rotate_left
        · intro w hSw; (try dsimp only at hSw); first | (go_simp; done) | (go_simp; with_reducible rfl)
        try simp only [Act.put]
        try simp only [List.setIfInBounds_toArray]
        try simp only [List.set_cons_succ]
        try simp only [List.set_cons_zero]
        refine wpAnyH_take (i := 3) (v := ?_) (at_list rfl) (by kernel_rfl) (by kernel_rfl) (by kernel_rfl) (fun _ _ _ h => h) (Or.inl ⟨by rfl, ?_⟩) (by assumption) ?_
        rotate_left
        · intro w hSw; (try dsimp only at hSw); first | (go_simp; done) | (go_simp; with_reducible rfl)
        try simp only [Act.put]
        try simp only [List.setIfInBounds_toArray]
        try simp only [List.set_cons_succ]
        try simp only [List.set_cons_zero]
        refine wpAnyH_take (i := 4) (v := ?_) (at_list rfl) (by kernel_rfl) (by kernel_rfl) (by kernel_rfl) (fun _ _ _ h => h) (Or.inl ⟨by rfl, ?_⟩) (by assumption) ?_
        rotate_left
        · intro w hSw; (try dsimp only at hSw); first | (go_simp; done) | (go_simp; with_reducible rfl)
        try simp only [Act.put]
        try simp only [List.setIfInBounds_toArray]
        try simp only [List.set_cons_succ]
        try simp only [List.set_cons_zero]
        refine wpAnyH_take (i := 5) (v := ?_) (at_list rfl) (by kernel_rfl) (by kernel_rfl) (by kernel_rfl) (fun _ _ _ h => h) (Or.inl ⟨by rfl, ?_⟩) (by assumption) ?_
        rotate_left
        · intro w hSw; (try dsimp only at hSw); first | (go_simp; done) | (go_simp; with_reducible rfl)
        try simp only [Act.put]
        try simp only [List.setIfInBounds_toArray]
        try simp only [List.set_cons_succ]
        try simp only [List.set_cons_zero]
        refine wpAnyH_take (i := 7) (v := ?_) (at_list rfl) (by kernel_rfl) (by kernel_rfl) (by kernel_rfl) (fun _ _ _ h => h) (Or.inl ⟨by rfl, ?_⟩) (by assumption) ?_
        rotate_left
        · intro w hSw; (try dsimp only at hSw); first | (go_simp; done) | (go_simp; with_reducible rfl)
        try simp only [Act.put]
        try simp only [List.setIfInBounds_toArray]
        try simp only [List.set_cons_succ]
        try simp only [List.set_cons_zero]
        refine wpAnyH_take (i := 8) (v := ?_) (at_list rfl) (by kernel_rfl) (by kernel_rfl) (by kernel_rfl) (fun _ _ _ h => h) (Or.inl ⟨by rfl, ?_⟩) (by assumption) ?_
        rotate_left
        · intro w hSw; (try dsimp only at hSw); first | (go_simp; done) | (go_simp; with_reducible rfl)
        try simp only [Act.put]
        try simp only [List.setIfInBounds_toArray]
        try simp only [List.set_cons_succ]
        try simp only [List.set_cons_zero]
        refine wpAnyH_ready (rs := [6]) (by kernel_rfl) (by simp) ?_
        refine AllReadyH.cons (at_list rfl) (fun K hK => ?_) AllReadyH.nil
        go_simp
        refine (extended_any (S.reg q) n _ n1 h32).mono ?_; rintro e w8 ⟨rfl, rfl⟩; dsimp only
        refine hK.out _ _ (hHeld) (fun hHeld => ?_)
        clear hK K
        try simp only [Act.put]
        try simp only [List.setIfInBounds_toArray]
        try simp only [List.set_cons_succ]
        try simp only [List.set_cons_zero]
        refine wpAnyH_take (i := 9) (v := ?_) (at_list rfl) (by kernel_rfl) (by kernel_rfl) (by kernel_rfl) (fun _ _ _ h => h) (Or.inl ⟨by rfl, ?_⟩) (by assumption) ?_
        rotate_left
        · intro w hSw; (try dsimp only at hSw); first | (go_simp; done) | (go_simp; with_reducible rfl)
        try simp only [Act.put]
        try simp only [List.setIfInBounds_toArray]
        try simp only [List.set_cons_succ]
        try simp only [List.set_cons_zero]
        have hS9 := blk_set_other (j := q) (.int .i64 (extV (S.reg q) n)) hHeld hsb.symm
        refine wpAnyH_ready (rs := [10]) (by kernel_rfl) (by simp) ?_
        refine AllReadyH.cons (at_list rfl) (fun K hK => ?_) AllReadyH.nil
        go_simp
        refine hK.out _ _ (hS9) (fun hHeld => ?_)
        clear hK K
        try simp only [Act.put]
        try simp only [List.setIfInBounds_toArray]
        try simp only [List.set_cons_succ]
        try simp only [List.set_cons_zero]
        refine wpAnyH_done (by kernel_rfl) ?_ _
        refine NoPanic.normal ?_
        clear hd
        go_wp2
        go_roundw
        case rel => exact ⟨a + 1, { S with reg := upd S.reg q (extV (S.reg q) n) }, by go_num, by omega, (unhide HM8).setReg hq _, unhide HSN, (unhide HB8).setCell (Nat.le_refl _) _, unhide HR⟩
        case measure => simp [intOf]; omega
      · obtain ⟨n1, h32, k1⟩ := known_range (unhide HKN) rfl
        simp only at n1 h32 k1
        have hact := act_range (r := (q : Int)) (b := b) (k := k) (n := n) S
        rw [Int.toNat_natCast] at hact
        have HFB := hide (show fitsB (if (k == 1) = true then 115 else 117) n (S.reg q) = fitsB (if k = 1 then 115 else 117) n (S.reg q) by simp)
        cases hfit : fitsB (if k = 1 then 115 else 117) n (S.reg q) with
        | true =>
          have HR := hide (show runL (L.drop (a + 1)) S = runL L s by have := unhide HRUN; rw [hact, hfit] at this; simpa using this)
          rw [hfit] at HFB
          clear hact hfit
          go_wp2_with fail
          refine (inRange_any (S.reg q) n _ _ n1 h32).mono ?_
          rintro e w8 ⟨rfl, rfl⟩
          rw [unhide HFB]
          go_wp2
          go_roundw
          case rel => exact ⟨a + 1, S, by go_num, by omega, unhide HM7, unhide HSN, unhide HB7, unhide HR⟩
          case measure => simp [intOf]; omega
        | false =>
          have HR := hide (show (S, (9 : Int), (q : Int)) = runL L s by have := unhide HRUN; rw [hact, hfit] at this; simpa using this)
          rw [hfit] at HFB
          clear hact hfit
          go_wp2_with fail
          refine (inRange_any (S.reg q) n _ _ n1 h32).mono ?_
          rintro e w8 ⟨rfl, rfl⟩
          rw [unhide HFB]
          go_wp2
          clear hd7
          refine wp_region_noPanic ?_
          refine wp_region_held_drew (S := fun wx => wx.heap[sb]? = some (.cells #[.int .u8 82, .int .i64 q, .int .i64 b, .int .i64 k, .int .i64 n] 128 (0, 0))) (by kernel_rfl) (unhide HBOX) (fun hHeld => ?_)
          have hb8 : Below w7.heap.size w7 w7.drew := (Below.refl w7.heap.size w7).drew
          have HM8 := hide ((unhide HM7).bel hb8)
          have HB8 := hide ((unhide HB7).trans (hb8.mono (Nat.le_of_lt hgs)))
          clear hb8
          refine wpAnyH_take (i := 0) (v := ?_) (at_list rfl) (by kernel_rfl) (by kernel_rfl) (by kernel_rfl) (fun _ _ _ h => h) (Or.inl ⟨by rfl, ?_⟩) (by assumption) ?_
          rotate_left
          · intro w hSw; (try dsimp only at hSw); first | (go_simp; done) | (go_simp; with_reducible rfl)
          try simp only [Act.put]
          try simp only [List.setIfInBounds_toArray]
          try simp only [List.set_cons_succ]
          try simp only [List.set_cons_zero]
          refine wpAnyH_take (i := 1) (v := ?_) (at_list rfl) (by kernel_rfl) (by kernel_rfl) (by kernel_rfl) (fun _ _ _ h => h) (Or.inl ⟨by rfl, ?_⟩) (by assumption) ?_
          rotate_left
          · intro w hSw; (try dsimp only at hSw); first | (go_simp; done) | (go_simp; with_reducible rfl)
          try simp only [Act.put]
          try simp only [List.setIfInBounds_toArray]
          try simp only [List.set_cons_succ]
          try simp only [List.set_cons_zero]
          refine wpAnyH_take (i := 2) (v := ?_) (at_list rfl) (by kernel_rfl) (by kernel_rfl) (by kernel_rfl) (fun _ _ _ h => h) (Or.inl ⟨by rfl, ?_⟩) (by assumption) ?_
          rotate_left
          · intro w hSw; (try dsimp only at hSw); first | (go_simp; done) | (go_simp; with_reducible rfl)
          try simp only [Act.put]
          try simp only [List.setIfInBounds_toArray]
          try simp only [List.set_cons_succ]
          try simp only [List.set_cons_zero]
          refine wpAnyH_take (i := 3) (v := ?_) (at_list rfl) (by kernel_rfl) (by kernel_rfl) (by kernel_rfl) (fun _ _ _ h => h) (Or.inl ⟨by rfl, ?_⟩) (by assumption) ?_
          rotate_left
          · intro w hSw; (try dsimp only at hSw); first | (go_simp; done) | (go_simp; with_reducible rfl)
          try simp only [Act.put]
          try simp only [List.setIfInBounds_toArray]
          try simp only [List.set_cons_succ]
          try simp only [List.set_cons_zero]
          refine wpAnyH_done (by kernel_rfl) ?_ _
          refine NoPanic.normal ?_
          clear hd
          go_wp2
          go_ret2
          exact ⟨by rw [← unhide HR]; rfl, by rw [← unhide HR]; exact unhide HM8, by rw [← unhide HR]; exact unhide HSN, unhide HB8⟩
      · obtain ⟨n1, hnl⟩ := known_jump (unhide HKN) rfl
        simp only at n1 hnl
        have hn255 := (unhide HBY).n1
        simp only at hn255
        have hact := act_jump (r := (q : Int)) (b := b) (k := k) (n := n) S
        rw [Int.toNat_natCast] at hact
        obtain ⟨m, rfl⟩ : ∃ m : Nat, n = m := ⟨n.toNat, by omega⟩
        by_cases hjb : S.reg q = b
        · have HR := hide (show runL (L.drop (a + 1)) S = runL L s by have := unhide HRUN; rw [hact, if_pos hjb] at this; simpa using this)
          have hne : (S.reg q != b) = false := by simp [hjb]
          clear hact hjb
          go_wp2
          go_roundw
          case rel => exact ⟨a + 1, S, by go_num, by omega, unhide HM7, unhide HSN, unhide HB7, unhide HR⟩
          case measure => simp [intOf]; omega
        · have HR := hide (show runL (L.drop (a + 1 + m)) S = runL L s by have := unhide HRUN; rw [hact, if_neg hjb] at this; simpa [List.drop_drop, Nat.add_comm, Nat.add_left_comm, Nat.add_assoc] using this)
          have hne : (S.reg q != b) = true := by simp [hjb]
          clear hact hjb
          go_wp2
          go_roundw
          case rel => exact ⟨a + 1 + m, S, by go_num, by omega, unhide HM7, unhide HSN, unhide HB7, unhide HR⟩
          case measure => simp [intOf]; omega
      · have HR := hide (show runL (L.drop (a + 1)) { S with mark := upd S.mark q true } = runL L s by have := unhide HRUN; rw [act_mark] at this; simpa using this)
        go_wp2
        clear hd7
        refine wp_region_noPanic ?_
        refine wp_region_held_drew (S := fun wx => wx.heap[sb]? = some (.cells #[.int .u8 65, .int .i64 q, .int .i64 b, .int .i64 k, .int .i64 n] 128 (0, 0))) (by kernel_rfl) (unhide HBOX) (fun hHeld => ?_)
        have hb8 : Below w7.heap.size w7 w7.drew := (Below.refl w7.heap.size w7).drew
        have HM8 := hide ((unhide HM7).bel hb8)
        have HB8 := hide ((unhide HB7).trans (hb8.mono (Nat.le_of_lt hgs)))
        have hfr8 := (unhide HM8).free (8 + q)
        have hrc8 := (unhide HM8).mark hq
        clear hb8
        refine wpAnyH_take (i := 0) (v := ?_) (at_list rfl) (by kernel_rfl) (by kernel_rfl) (by kernel_rfl) (fun _ _ _ h => h) (Or.inl ⟨by rfl, ?_⟩) (by assumption) ?_
        rotate_left
        · intro w hSw; (try dsimp only at hSw); first | (go_simp; done) | (go_simp; with_reducible rfl)
        try simp only [Act.put]
        try simp only [List.setIfInBounds_toArray]
        try simp only [List.set_cons_succ]
        try simp only [List.set_cons_zero]
        refine wpAnyH_take (i := 1) (v := ?_) (at_list rfl) (by kernel_rfl) (by kernel_rfl) (by kernel_rfl) (fun _ _ _ h => h) (Or.inl ⟨by rfl, ?_⟩) (by assumption) ?_
        rotate_left
        · intro w hSw; (try dsimp only at hSw); first | (go_simp; done) | (go_simp; with_reducible rfl)
        try simp only [Act.put]
        try simp only [List.setIfInBounds_toArray]
        try simp only [List.set_cons_succ]
        try simp only [List.set_cons_zero]
        refine wpAnyH_take (i := 2) (v := ?_) (at_list rfl) (by kernel_rfl) (by kernel_rfl) (by kernel_rfl) (fun _ _ _ h => h) (Or.inl ⟨by rfl, ?_⟩) (by assumption) ?_
        rotate_left
        · intro w hSw; (try dsimp only at hSw); first | (go_simp; done) | (go_simp; with_reducible rfl)
        try simp only [Act.put]
        try simp only [List.setIfInBounds_toArray]
        try simp only [List.set_cons_succ]
        try simp only [List.set_cons_zero]
        refine wpAnyH_take (i := 3) (v := ?_) (at_list rfl) (by kernel_rfl) (by kernel_rfl) (by kernel_rfl) (fun _ _ _ h => h) (Or.inl ⟨by rfl, ?_⟩) (by assumption) ?_
        rotate_left
        · intro w hSw; (try dsimp only at hSw); first | (go_simp; done) | (go_simp; with_reducible rfl)
        try simp only [Act.put]
        try simp only [List.setIfInBounds_toArray]
        try simp only [List.set_cons_succ]
        try simp only [List.set_cons_zero]
        refine wpAnyH_take (i := 4) (v := ?_) (at_list rfl) (by kernel_rfl) (by kernel_rfl) (by kernel_rfl) (fun _ _ _ h => h) (Or.inl ⟨by rfl, ?_⟩) (by assumption) ?_
        rotate_left
        · intro w hSw; (try dsimp only at hSw); first | (go_simp; done) | (go_simp; with_reducible rfl)
        try simp only [Act.put]
        try simp only [List.setIfInBounds_toArray]
        try simp only [List.set_cons_succ]
        try simp only [List.set_cons_zero]
        refine wpAnyH_take (i := 5) (v := ?_) (at_list rfl) (by kernel_rfl) (by kernel_rfl) (by kernel_rfl) (fun _ _ _ h => h) (Or.inl ⟨by rfl, ?_⟩) (by assumption) ?_
        rotate_left
        · intro w hSw; (try dsimp only at hSw); first | (go_simp; done) | (go_simp; with_reducible rfl)
        try simp only [Act.put]
        try simp only [List.setIfInBounds_toArray]
        try simp only [List.set_cons_succ]
        try simp only [List.set_cons_zero]
        have hS9 := blk_set_other (j := 8 + q) (.bool true) hHeld hsb.symm
        refine wpAnyH_ready (rs := [6]) (by kernel_rfl) (by simp) ?_
        refine AllReadyH.cons (at_list rfl) (fun K hK => ?_) AllReadyH.nil
        go_simp
        refine hK.out _ _ (hS9) (fun hHeld => ?_)
        clear hK K
        try simp only [Act.put]
        try simp only [List.setIfInBounds_toArray]
        try simp only [List.set_cons_succ]
        try simp only [List.set_cons_zero]
        refine wpAnyH_done (by kernel_rfl) ?_ _
        refine NoPanic.normal ?_
        clear hd
        go_wp2
        go_roundw
        case rel => exact ⟨a + 1, { S with mark := upd S.mark q true }, by go_num, by omega, (unhide HM8).setMark hq, unhide HSN, (unhide HB8).setCell (Nat.le_refl _) _, unhide HR⟩
        case measure => simp [intOf]; omega
    · have HR := hide (show (S, (0 : Int), (0 : Int)) = runL L s by rw [← unhide HRUN, List.drop_of_length_le (by omega), runL_nil])
      go_wp2
      go_ret2
      exact ⟨by rw [← unhide HR]; rfl, by rw [← unhide HR]; exact unhide HMA, by rw [← unhide HR]; exact unhide HSN, unhide HBW⟩

end Go.Proofs.Ytoihlnjcgopdlaa

namespace Go.Proofs.Ytoihlnjcgopdlaa
open Go.RowKit

/-- How many instructions a code has, a part of one counted. -/
def cntI (s : ByteArray) : Nat := (s.size + 4) / 5
def badB (s : ByteArray) (i : Nat) : Bool := decide (s.size < 5 * i + 5) || !knownB (insAt s i) ((cntI s : Int) - 1 - i)
def vIx (s : ByteArray) : Nat := firstIx (badB s) (cntI s)
/-- What the program's Verify answers. -/
def vE (s : ByteArray) : Int := if 480 < s.size then 1 else if vIx s < cntI s then 11 else 0
def vP (s : ByteArray) : Int := if 480 < s.size then 0 else if vIx s < cntI s then vIx s else 0
def codeTo (s : ByteArray) (k : Nat) : List Ins := (List.range k).map (insAt s)
def codeL (s : ByteArray) : List Ins := codeTo s (cntI s)
theorem codeTo_len (s : ByteArray) (k : Nat) : (codeTo s k).length = k := by simp [codeTo]
theorem codeTo_succ (s : ByteArray) (k : Nat) : codeTo s (k + 1) = codeTo s k ++ [insAt s k] := by simp [codeTo, List.range_succ]
theorem codeTo_get (s : ByteArray) (k i : Nat) (h : i < k) : (codeTo s k)[i]? = some (insAt s i) := by simp [codeTo, h]

theorem vE_zero {s : ByteArray} (h : vE s = 0) : s.size ≤ 480 ∧ (∀ i, i < cntI s → badB s i = false) := by
  unfold vE at h
  split at h
  · omega
  · split at h
    · omega
    · rename_i h1 h2
      refine ⟨by omega, fun i hi => ?_⟩
      have := firstIx_le (badB s) (cntI s)
      exact firstIx_no (badB s) (cntI s) i (by unfold vIx at h2; omega)
theorem code_fine {s : ByteArray} (h : vE s = 0) : Fine (codeL s) ∧ (codeL s).length ≤ 96 := by
  obtain ⟨h1, h2⟩ := vE_zero h
  rw [codeL]
  refine ⟨?_, by rw [codeTo_len]; unfold cntI; omega⟩
  intro i x hx
  rw [codeTo_len]
  by_cases hi : i < cntI s
  · rw [codeTo_get s _ i hi] at hx
    cases hx
    have := h2 i hi
    simp only [badB, Bool.or_eq_false_iff, Bool.not_eq_false'] at this
    exact ⟨insAt_byt s i, this.2⟩
  · rw [List.getElem?_eq_none (by rw [codeTo_len]; omega)] at hx; cases hx

theorem rdIns_at (s : ByteArray) (k : Nat) (w : World) (h : 5 * k + 5 ≤ s.size) :
    Calls Try.prog 78 #[.string (s.extract (5 * k) (5 * k + 5))] w fun e w' =>
      e = .returned (.agg #[.int .u8 (insAt s k).op, .int .i64 (insAt s k).r, .int .i64 (insAt s k).b, .int .i64 (insAt s k).k, .int .i64 (insAt s k).n]) ∧ Below w.heap.size w w' := by
  refine (readInstruction_any (s.extract (5 * k) (5 * k + 5)) w (by rw [ByteArray.size_extract]; omega)).mono ?_
  rintro e w' ⟨rfl, hb⟩
  refine ⟨?_, hb⟩
  rw [bt_extract s _ 5 0 (by omega) (by omega), bt_extract s _ 5 1 (by omega) (by omega), bt_extract s _ 5 2 (by omega) (by omega), bt_extract s _ 5 3 (by omega) (by omega), bt_extract s _ 5 4 (by omega) (by omega)]
  rfl

theorem Try.infoIns : (Try.prog.info? 128).map (fun i => (i.zero, i.size, i.bytes)) = some (some (.agg #[.int .u8 0, .int .i64 0, .int .i64 0, .int .i64 0, .int .i64 0]), 5, 40) := by kernel_rfl

set_option maxRecDepth 100000 in
set_option maxHeartbeats 2000000 in
theorem soundCode_any (s : ByteArray) (w : World) :
    Calls Try.prog 53 #[.string s] w fun e w' => (∃ a n cap, e = .returned (.tuple #[.slice a n cap, .int .i64 (vE s), .int .i64 (vP s)]) ∧ (vE s = 0 → InsAt w' (.slice a n cap) (codeL s))) ∧ Below w.heap.size w w' := by
  by_cases hlong : 480 < s.size
  · have HE := hide (show vE s = 1 ∧ vP s = 0 by simp [vE, vP, hlong])
    have hg : (480 : Int) < (s.size : Int) := by omega
    go_enter Try.func53, Try.ntmps53
    go_wp2
    go_ret3
    exact ⟨⟨none, 0, 0, by rw [(unhide HE).1, (unhide HE).2]; rfl, fun h => by rw [(unhide HE).1] at h; omega⟩, Below.refl _ _⟩
  obtain ⟨i0, hinf, hz0, hz1, hz2⟩ := info_parts Try.infoIns
  have HINF := hide hinf
  have HZ0 := hide hz0
  have HZ1 := hide hz1
  have HZ2 := hide hz2
  clear hinf hz0 hz1 hz2
  obtain ⟨c, HC⟩ : ∃ c, Hid (c = cntI s) := ⟨_, hide rfl⟩
  have hc1 : c ≤ 96 := by rw [unhide HC]; unfold cntI; omega
  have hc2 : ((s.size : Int) + 5 - 1) / 5 = (c : Int) := by rw [unhide HC]; unfold cntI; omega
  have hl2 : (s.size : Int) ≤ 480 := by omega
  go_enter Try.func53, Try.ntmps53
  go_wp2
  rw [hc2]
  clear hc2
  go_loopw [6, 7] (fun v i wr => ∃ k : Nat, k ≤ c ∧ i = .int .i64 k ∧ wr.ownsRow w.heap.size 128 5 v k ((codeTo s k).flatMap Ins.cells) ∧ (∀ j, j < k → badB s j = false) ∧ Below w.heap.size w wr) (fun _ i _ => c - (intOf i).toNat)
  case atStart => exact ⟨0, by omega, rfl, ⟨by simp [codeTo], .inr ⟨_, 0, #[], rfl, Nat.le_refl _, blk_new _ _, by simp, by simp [maxLen], by simp, by simp [codeTo]⟩⟩, by intro j hj; omega, (Below.refl _ _).alloc (Nat.le_refl _) _⟩
  case round =>
    obtain ⟨k, hk, rfl, hown, hno, hb⟩ := hrel
    obtain ⟨sa, cap, rfl⟩ := ownsRow_form hown
    have HOWN := hide hown
    have HNO := hide hno
    have HB := hide hb
    clear hown hno hb
    by_cases hlt : k < c
    · by_cases hsz : s.size < 5 * k + 5
      · have hbad : badB s k = true := by simp [badB, hsz]
        have hix : vIx s = k := firstIx_is (unhide HNO) (by rw [← unhide HC]; exact hlt) hbad
        have HE := hide (show vE s = 11 ∧ vP s = k by rw [vE, vP, if_neg hlong, if_neg hlong, hix, if_pos (by rw [← unhide HC]; exact hlt), if_pos (by rw [← unhide HC]; exact hlt)]; exact ⟨rfl, rfl⟩)
        clear hbad hix
        have hq : (s.size : Int) < 5 * (k : Int) + 5 := by omega
        go_wp2
        go_ret3
        exact ⟨⟨none, 0, 0, by rw [(unhide HE).1, (unhide HE).2]; rfl, fun h => by rw [(unhide HE).1] at h; omega⟩, unhide HB⟩
      · have hq : ¬ (s.size : Int) < 5 * (k : Int) + 5 := by omega
        have hq2 : 5 * (k : Int) + 5 ≤ (s.size : Int) := by omega
        obtain ⟨x, HX⟩ : ∃ x, Hid (x = insAt s k) := ⟨_, hide rfl⟩
        have hby := insAt_byt s k
        rw [← unhide HX] at hby
        have HBY := hide hby
        clear hby
        go_wp2_with fail
        refine (rdIns_at s k _ (by omega)).mono ?_
        rintro e w1 ⟨rfl, hb1⟩
        rw [← unhide HX]
        have HOWN1 := hide (ownsRow_bel (unhide HOWN) hb1)
        have HB1 := hide ((unhide HB).trans (hb1.mono (unhide HB).size))
        clear hb1 hq
        go_wp2_with fail
        refine (isInstruction_any x.op x.r x.b x.k x.n ((c : Int) - 1 - k) _ (unhide HBY)).mono ?_
        rintro e w2 ⟨rfl, hb2⟩
        have HB2 : Hid (Below (w1.heap.size + 1) (w1.alloc (.cells #[.int .u8 x.op, .int .i64 x.r, .int .i64 x.b, .int .i64 x.k, .int .i64 x.n] 128)) w2) := hide (hb2.mono (by simp))
        have hbw := box_cell (unhide HB2)
        have HB2' := hide ((unhide HB1).trans ((box_below (unhide HB2)).mono (unhide HB1).size))
        have HOWN2 := hide (ownsRow_bel (unhide HOWN1) (box_below (unhide HB2)))
        clear hb2
        cases hkn : knownB ⟨x.op, x.r, x.b, x.k, x.n⟩ ((c : Int) - 1 - k) with
        | false =>
          have hbad : badB s k = true := by
            rw [badB, ← unhide HX, ← unhide HC]
            have : knownB x ((c : Int) - 1 - k) = false := hkn
            simp [this]
          have hix : vIx s = k := firstIx_is (unhide HNO) (by rw [← unhide HC]; exact hlt) hbad
          have HE := hide (show vE s = 11 ∧ vP s = k by rw [vE, vP, if_neg hlong, if_neg hlong, hix, if_pos (by rw [← unhide HC]; exact hlt), if_pos (by rw [← unhide HC]; exact hlt)]; exact ⟨rfl, rfl⟩)
          clear hbad hix
          go_wp2
          go_ret3
          exact ⟨⟨none, 0, 0, by rw [(unhide HE).1, (unhide HE).2]; rfl, fun h => by rw [(unhide HE).1] at h; omega⟩, unhide HB2'⟩
        | true =>
          have hgood : badB s k = false := by
            rw [badB, ← unhide HX, ← unhide HC]
            have : knownB x ((c : Int) - 1 - k) = true := hkn
            simp [this]; omega
          have HGO := hide hgood
          clear hgood
          go_wp2_with (at_builtin; refine wpList_append_own _ rfl _ _ 91 rfl w.heap.size 128 i0 _ 5 40 Try.underlying91 (unhide HINF) (unhide HZ0) (unhide HZ1) (unhide HZ2) rfl (by decide) _ _ _ rfl ((unhide HOWN2).alloc _) ⟨w2.heap.size, 0, none⟩ 1 1 x.cells rfl rfl ?c1 ?c2 ?c3 ?c4 ?c5 ?_)
          case c1 => exact new_cells (blk_new _ _)
          case c2 => simp [Ins.cells, Value.oneCell']
          case c3 => unfold maxLen; omega
          case c4 => omega
          case c5 => have := (unhide HB2').size; simp; omega
          intro v3 w3 hown3 hgrow _
          obtain ⟨a3, cap3, rfl⟩ := ownsRow_form hown3
          have HB3 := hide (Below.grown ((unhide HB2').alloc (unhide HB2').size _) hgrow (by have := (unhide HB2').size; simp; omega) (fun k hk => ((unhide HOWN2).lt k hk).1))
          have HOWN3 := hide hown3
          clear hown3 hgrow hbw
          go_wp2
          go_roundw
          case rel =>
            refine ⟨k + 1, by omega, by go_num, ?_, fun j hj => ?_, unhide HB3⟩
            · have := unhide HOWN3
              rw [codeTo_succ, List.flatMap_append, ← unhide HX]
              simpa using this
            · by_cases e : j = k
              · subst e; exact unhide HGO
              · exact unhide HNO j (by omega)
          case measure => simp [intOf]; omega
    · have hkc : k = cntI s := by rw [← unhide HC]; omega
      have HE := hide (show vE s = 0 ∧ vP s = 0 by
        have : ¬ vIx s < cntI s := by rw [vIx, firstIx_none (fun j hj => unhide HNO j (by omega))]; omega
        rw [vE, vP, if_neg hlong, if_neg hlong, if_neg this, if_neg this]; exact ⟨rfl, rfl⟩)
      have HKC := hide hkc
      clear hkc
      go_wp2
      go_ret3
      refine ⟨⟨_, _, _, by rw [(unhide HE).1, (unhide HE).2]; rfl, fun _ => ?_⟩, unhide HB⟩
      have := ownsRow_base (unhide HOWN)
      rw [unhide HKC] at this ⊢
      rw [InsAt, codeL, codeTo_len]
      exact this

end Go.Proofs.Ytoihlnjcgopdlaa
