import Derived.Test.YtljodhcfimklkabV1
namespace Go.Proofs.Ytljodhcfimklkab
open Go.RowKit

/-- What the document's Find answers in a text that is a database. -/
def RFOut (M : List Mg) (id : ByteArray) (e : Ending) (w' : World) : Prop :=
  (msgIx M id = -1 ∧ e = .returned (.tuple #[.agg #[.string { data := #[] }, .int .i64 0, .slice none 0 0, .int .i64 0], .bool false])) ∨
    ∃ (k : Nat) (sv : Value), k < M.length ∧ msgIx M id = k ∧ e = .returned (.tuple #[.agg #[.string (mAt M k).id, .int .i64 (mAt M k).sz, sv, .int .i64 (mAt M k).pl], .bool true]) ∧ RSigsAt w' sv (mAt M k).sigs

set_option maxRecDepth 100000 in
set_option maxHeartbeats 1000000 in
theorem rFind_any (s id : ByteArray) (M : List Mg) (w : World) (hs : s.size ≤ 140737488351232) (hpd : pDb s 4 0 = .inr M) :
    Calls Try.prog 19 #[.string s, .string id] w fun e w' => RFOut M id e w' ∧ Below w.heap.size w w' := by
  have HPD := hide hpd
  clear hpd
  go_enter Try.func19, Try.ntmps19
  go_wp2_with fail
  refine (rRead_any s _ hs).mono ?_
  rintro e w1 ⟨hout, hb1⟩
  rw [RDbOut, unhide HPD] at hout
  dsimp only at hout
  obtain ⟨v, P, q, hPM, rfl, hm, hl, hok⟩ := hout
  have HB1 := hide (show Below (w.heap.size + 1) (w.alloc (.cells #[.string { data := #[] }, .int .i64 0, .slice none 0 0, .int .i64 0] 56)) w1 from hb1.mono (by simp))
  have hx := fun j => box_cell (unhide HB1) j
  have hlt1 : w.heap.size < w1.heap.size := by have := (unhide HB1).size; simp at this; omega
  have hf := fun j => (unhide HB1).frozen (p := ⟨w.heap.size, j, none⟩) (by simp)
  have hblk : w1.heap[w.heap.size]? = some (.cells #[.string { data := #[] }, .int .i64 0, .slice none 0 0, .int .i64 0] 56 (0, 0)) := by rw [(unhide HB1).block w.heap.size (by omega)]; exact blk_new _ _
  have HBLK := hide hblk
  have HM := hide hm
  have HPM := hide hPM
  have hlen : M.length = P.length := by rw [← hPM]; simp
  clear hb1 hok hPM hblk hm
  rcases (unhide HM).opened with ⟨rfl, a, c, rfl⟩ | ⟨g, cap, rfl, hg, hcap, hcm, hc⟩
  · have HL := hide hlen
    clear hlen
    go_wp2
    refine wp_loop_rounds 1 ?_
    rw [rounds_succ]
    go_wp2
    exact bodyPost_ret (v := .tuple #[.agg #[.string { data := #[] }, .int .i64 0, .slice none 0 0, .int .i64 0], .bool false]) (by simp [results, Try.results19, go_sem, hx]) rfl ⟨.inl ⟨by rw [msgIx, unhide HL]; rfl, rfl⟩, set4_below (box_below (unhide HB1)) _ _ _ _⟩
  have HC := hide hc
  have HLEN := hide hlen
  unfold maxLen at hcm
  clear hc hlen
  go_wp2
  go_loop [9] (fun i => ∃ k : Nat, k ≤ P.length ∧ i = .int .i64 k ∧ (∀ j, j < k → decide ((mAt M j).id = id) = false)) (fun i => P.length - (intOf i).toNat)
  case atStart => exact ⟨0, by omega, rfl, by intro j hj; omega⟩
  case round =>
    obtain ⟨k, hk, rfl, hno⟩ := hrel
    have HN := hide hno
    clear hno
    by_cases hlt : k < P.length
    · obtain ⟨c0, c1, c2, c3⟩ := rmcells4 (unhide HC) hg (Below.refl _ _) hlt
      have hsg : RSigsAt w1 (mgAt P k).2 (mgAt P k).1.sigs := (unhide HM).2 _ (mgAt_mem hlt)
      obtain ⟨va, vcap, hva⟩ := ownsRow_form hsg
      rw [hva] at c2 hsg
      have HSG := hide hsg
      have hmk : mAt M k = (mgAt P k).1 := by rw [← unhide HPM, mAt_fst]
      have HMK := hide hmk
      clear hva hsg hmk
      by_cases hid : (mgAt P k).1.id = id
      · have hb3 : ((mgAt P k).1.id.toList == id.toList) = true := by rw [hid]; simp
        have HID := hide hid
        clear hid
        go_wp2
        have hix : msgIx M id = k := findIx_is (unhide HN) (by have := unhide HLEN; omega) (by rw [unhide HMK]; simpa using unhide HID)
        exact bodyPost_ret (v := .tuple #[.agg #[.string (mgAt P k).1.id, .int .i64 (mgAt P k).1.sz, .slice va (mgAt P k).1.sigs.length vcap, .int .i64 (mgAt P k).1.pl], .bool true]) (by simp [results, Try.results19, go_sem, hx]) rfl
          ⟨.inr ⟨k, _, by have := unhide HLEN; omega, hix, by rw [unhide HMK], by rw [unhide HMK]; exact set4_sigs (unhide HSG) (unhide HBLK) (by decide) _ _ _ _⟩, set4_below (box_below (unhide HB1)) _ _ _ _⟩
      · have hb3 : ((mgAt P k).1.id.toList == id.toList) = false := str_ne hid
        have HID := hide hid
        clear hid
        go_wp2
        go_round
        case rel => exact ⟨k + 1, by omega, by go_num, fun j hj => by
            by_cases e : j = k
            · subst e; rw [unhide HMK]; simpa using unhide HID
            · exact unhide HN j (by omega)⟩
        case measure => simp [intOf]; omega
    · go_wp2
      exact bodyPost_ret (v := .tuple #[.agg #[.string { data := #[] }, .int .i64 0, .slice none 0 0, .int .i64 0], .bool false]) (by simp [results, Try.results19, go_sem, hx]) rfl ⟨.inl ⟨findIx_none (fun j hj => unhide HN j (by have := unhide HLEN; omega)), rfl⟩, set4_below (box_below (unhide HB1)) _ _ _ _⟩

end Go.Proofs.Ytljodhcfimklkab
