import Derived.Test.YtljodhcfimklkabU3
namespace Go.Proofs.Ytljodhcfimklkab
open Go.RowKit

/-- The number of the message of this id, or -1. -/
def msgIx (M : List Mg) (id : ByteArray) : Int := findIx (fun k => decide ((mAt M k).id = id)) M.length

theorem findIx_congr {f g : Nat → Bool} {n : Nat} (h : ∀ k, k < n → f k = g k) : findIx f n = findIx g n := by
  have hle := firstIx_le f n
  have e : firstIx f n = firstIx g n := by
    by_cases h1 : firstIx f n < n
    · exact (firstIx_is (fun j hj => by rw [← h j (by omega)]; exact firstIx_no f n j hj) h1 (by rw [← h _ h1]; exact firstIx_yes f n h1)).symm
    · have e1 : firstIx f n = n := by omega
      rw [e1]
      exact (firstIx_none (fun j hj => by rw [← h j hj]; exact firstIx_no f n j (by omega))).symm
  rw [findIx, findIx, e]

theorem findIx_cases (f : Nat → Bool) (n : Nat) : (findIx f n = -1 ∧ ∀ j, j < n → f j = false) ∨ ∃ k, k < n ∧ findIx f n = k ∧ f k = true := by
  have hle := firstIx_le f n
  by_cases h1 : firstIx f n < n
  · exact .inr ⟨_, h1, by rw [findIx, if_pos h1], firstIx_yes f n h1⟩
  · exact .inl ⟨by rw [findIx, if_neg h1], fun j hj => firstIx_no f n j (by omega)⟩

theorem idNum_lo (a : ByteArray) : -1 ≤ idNum a ∧ idNum a ≤ 100000 := by
  have h := idTo_hi a 3 (by omega)
  unfold idNum
  split
  · split
    · omega
    · rename_i hb
      have hb' : idBad a = false := by simpa using hb
      have a0 := idBad_all hb' 0 (by omega)
      have a1 := idBad_all hb' 1 (by omega)
      have a2 := idBad_all hb' 2 (by omega)
      have c0 : isHexB (bt a 0) = true := by simp [headB] at a0; simp [isHexB, isDigB]; omega
      have c1 : isHexB (bt a 1) = true := by simpa [headB] using a1
      have c2 : isHexB (bt a 2) = true := by simpa [headB] using a2
      have l0 := hex_lt c0
      have l1 := hex_lt c1
      have l2 := hex_lt c2
      simp only [idTo]
      omega
  · omega
theorem idNum_good {a : ByteArray} (h : a.size = 3) (g : idBad a = false) : 0 ≤ idNum a := by
  rw [idNum, if_pos h, g]
  have a0 := idBad_all g 0 (by omega)
  have a1 := idBad_all g 1 (by omega)
  have a2 := idBad_all g 2 (by omega)
  have c0 : isHexB (bt a 0) = true := by simp [headB] at a0; simp [isHexB, isDigB]; omega
  have c1 : isHexB (bt a 1) = true := by simpa [headB] using a1
  have c2 : isHexB (bt a 2) = true := by simpa [headB] using a2
  have l0 := hex_lt c0
  have l1 := hex_lt c1
  have l2 := hex_lt c2
  simp only [idTo, Bool.false_eq_true, if_false]
  omega

theorem id_eq_any {a b : ByteArray} (ha : a.size = 3) (ga : idBad a = false) : idNum a = idNum b ↔ a = b := by
  constructor
  · intro h
    have h0 := idNum_good ha ga
    by_cases hb : b.size = 3
    · cases gb : idBad b with
      | false => exact (id_inj ha hb ga gb).1 h
      | true => rw [h, idNum, if_pos hb, gb] at h0; simp at h0
    · rw [h, idNum, if_neg hb] at h0; omega
  · rintro rfl; rfl

theorem findM_eq {P : List (Mg × Value)} (hok : ∀ x ∈ P, x.1.Ok) (id : ByteArray) : findM P (idNum id) = msgIx (P.map Prod.fst) id := by
  unfold findM msgIx
  rw [List.length_map]
  refine findIx_congr (fun k hk => ?_)
  have okk := hok _ (mgAt_mem hk)
  rw [mAt_fst, Bool.eq_iff_iff]
  simp only [decide_eq_true_eq]
  exact id_eq_any okk.id okk.good

/-- What soundMessage answers. -/
def MsOut (s id : ByteArray) (e : Ending) (w' : World) : Prop :=
  (chkE s ≠ 0 ∧ e = .returned (.tuple #[.agg #[.int .i64 0, .int .i64 0, .int .i64 0, .slice none 0 0], .int .i64 (chkE s), .int .i64 (chkP s)])) ∨
  (chkE s = 0 ∧ ∃ M, pDb s 4 0 = .inr M ∧ ((msgIx M id = -1 ∧ e = .returned (.tuple #[.agg #[.int .i64 0, .int .i64 0, .int .i64 0, .slice none 0 0], .int .i64 7, .int .i64 0])) ∨
    ∃ (k : Nat) (sv : Value), k < M.length ∧ msgIx M id = k ∧ e = .returned (.tuple #[.agg #[.int .i64 (mAt M k).pl, .int .i64 (idNum (mAt M k).id), .int .i64 (mAt M k).sz, sv], .int .i64 0, .int .i64 0]) ∧ SigsAt w' sv (mAt M k).sigs ∧ (mAt M k).Ok))

theorem set4_sigs {w : World} {B e e' sz : Nat} {v : Value} {n : Nat} {xs : List Value} {cur : Array Value} (h : w.ownsRow 0 e sz v n xs) (hB : w.heap[B]? = some (.cells cur e' (0, 0))) (hne : e ≠ e') (u0 u1 u2 u3 : Value) :
    ((((w.setCell ⟨B, 0, none⟩ u0).setCell ⟨B, 1, none⟩ u1).setCell ⟨B, 2, none⟩ u2).setCell ⟨B, 3, none⟩ u3).ownsRow 0 e sz v n xs := by
  have ha : v.ownBlock ≠ some B := by
    intro hv
    obtain ⟨cur', h2⟩ := ownsRow_block h B hv
    rw [hB] at h2
    simp at h2
    exact hne h2.2.symm
  exact ownsRow_setCell_other (ownsRow_setCell_other (ownsRow_setCell_other (ownsRow_setCell_other h (a := ⟨B, 0, none⟩) ha u0) (a := ⟨B, 1, none⟩) ha u1) (a := ⟨B, 2, none⟩) ha u2) (a := ⟨B, 3, none⟩) ha u3

set_option maxRecDepth 100000 in
set_option maxHeartbeats 1000000 in
theorem soundMessage_any (s id : ByteArray) (w : World) (hs : s.size ≤ maxLen) (hid : id.size ≤ maxLen) :
    Calls Try.prog 11 #[.string s, .string id] w fun e w' => MsOut s id e w' ∧ Below w.heap.size w w' := by
  go_enter Try.func11, Try.ntmps11
  go_wp2_with fail
  refine (soundMessages_any s _ hs).mono ?_
  rintro e w1 ⟨hout, hb1⟩
  have HB1 := hide (show Below (w.heap.size + 1) (w.alloc (.cells #[.int .i64 0, .int .i64 0, .int .i64 0, .slice none 0 0] 35)) w1 from hb1.mono (by simp))
  have hx := fun j => box_cell (unhide HB1) j
  have hlt1 : w.heap.size < w1.heap.size := by have := (unhide HB1).size; simp at this; omega
  have hf := fun j => (unhide HB1).frozen (p := ⟨w.heap.size, j, none⟩) (by simp)
  clear hb1
  rcases hout with ⟨hz, v, P, rfl, hpd, hm, hl, hok⟩ | ⟨hz, rfl⟩
  · have HZ := hide hz
    have HPD := hide hpd
    have HM := hide hm
    have HOK := hide hok
    obtain ⟨sa, cap, rfl⟩ := ownsRow_form hm.1
    clear hz hpd hm hok
    go_wp2_with fail
    refine (idNumber_any id _ hid).mono ?_
    rintro e w2 ⟨rfl, rfl⟩
    go_wp2_with fail
    refine (findMessage_any _ P (idNum id) _ (unhide HM) hl).mono ?_
    rintro e w2 ⟨rfl, rfl⟩
    rw [findM_eq (unhide HOK)]
    rcases findIx_cases (fun k => decide ((mAt (P.map Prod.fst) k).id = id)) (P.map Prod.fst).length with ⟨hn, _⟩ | ⟨k, hk, hkk, _⟩
    · have hn' : msgIx (P.map Prod.fst) id = -1 := hn
      have HN := hide hn'
      rw [hn']
      clear hn hn'
      go_wp2
      exact bodyPost_ret (v := .tuple #[.agg #[.int .i64 0, .int .i64 0, .int .i64 0, .slice none 0 0], .int .i64 7, .int .i64 0]) (by simp [results, Try.results11, go_sem, hx]) rfl ⟨.inr ⟨unhide HZ, _, unhide HPD, .inl ⟨unhide HN, rfl⟩⟩, set4_below (box_below (unhide HB1)) _ _ _ _⟩
    · have hk' : msgIx (P.map Prod.fst) id = k := hkk
      have HK := hide hk'
      have hkl : k < P.length := by simpa using hk
      rw [hk']
      clear hkk hk'
      have OKk := hide (unhide HOK _ (mgAt_mem hkl))
      have hsg : SigsAt w2 (mgAt P k).2 (mgAt P k).1.sigs := (unhide HM).2 _ (mgAt_mem hkl)
      obtain ⟨va, vcap, hva⟩ := ownsRow_form hsg
      rcases (unhide HM).opened with ⟨rfl, _⟩ | ⟨g, cap', hv2, hg, hcap, hcm, hc⟩
      · simp at hkl
      cases hv2
      obtain ⟨c0, c1, c2, c3⟩ := mcells4 hc hg (Below.refl _ _) hkl
      rw [hva] at c3 hsg
      have HSG := hide hsg
      clear hva hsg hc
      unfold maxLen at hcm
      go_wp2
      exact bodyPost_ret (v := .tuple #[.agg #[.int .i64 (mgAt P k).1.pl, .int .i64 (idNum (mgAt P k).1.id), .int .i64 (mgAt P k).1.sz, .slice va (mgAt P k).1.sigs.length vcap], .int .i64 0, .int .i64 0]) (by simp [results, Try.results11, go_sem, hx]) rfl
        ⟨.inr ⟨unhide HZ, _, unhide HPD, .inr ⟨k, _, by simpa using hkl, unhide HK, by rw [mAt_fst], by rw [mAt_fst]; exact set4_sigs (unhide HSG) (by rw [(unhide HB1).block w.heap.size (by omega)]; exact blk_new _ _) (by decide) _ _ _ _, by rw [mAt_fst]; exact unhide OKk⟩⟩, set4_below (box_below (unhide HB1)) _ _ _ _⟩
  · have HZ := hide hz
    have hz2 : (chkE s != 0) = true := by simpa using hz
    clear hz
    go_wp2
    exact bodyPost_ret (v := .tuple #[.agg #[.int .i64 0, .int .i64 0, .int .i64 0, .slice none 0 0], .int .i64 (chkE s), .int .i64 (chkP s)]) (by simp [results, Try.results11, go_sem, hx]) rfl ⟨.inl ⟨unhide HZ, rfl⟩, set4_below (box_below (unhide HB1)) _ _ _ _⟩

end Go.Proofs.Ytljodhcfimklkab
