import Derived.Test.YtljodhcfimklkabR1
namespace Go.Proofs.Ytljodhcfimklkab
open Go.RowKit

def noMg : Mg × Value := (⟨0, { data := #[] }, 0, []⟩, .slice none 0 0)
def mgAt (P : List (Mg × Value)) (k : Nat) : Mg × Value := P.getD k noMg
theorem mgAt_mem {P : List (Mg × Value)} {k : Nat} (h : k < P.length) : mgAt P k ∈ P := by
  rw [mgAt, List.getD_eq_getElem?_getD, List.getElem?_eq_getElem h]; exact List.getElem_mem h
theorem mgAt_eq {P : List (Mg × Value)} {k : Nat} (h : k < P.length) : mgAt P k = P[k] := by simp [mgAt, h]

theorem MsgsAt.opened {w : World} {v : Value} {P : List (Mg × Value)} (h : MsgsAt 0 w v P) :
    (P = [] ∧ (∃ a c, v = .slice a 0 c)) ∨ ∃ g cap, v = .slice (some ⟨g, 0, none⟩) P.length cap ∧ g < w.heap.size ∧ P.length ≤ cap ∧ cap ≤ maxLen ∧
      ∀ k j, k < P.length → j < 4 → w.cell? ⟨g, k * 4 + j, none⟩ = (mgCells (mgAt P k))[j]? := by
  have h' := h.1
  obtain ⟨hl, h2⟩ := h.1
  rcases h2 with ⟨rfl, hn⟩ | ⟨g, cap, cur, rfl, _, hg, hnc, hcm, hcs, ht⟩
  · exact .inl ⟨List.eq_nil_of_length_eq_zero hn, _, _, rfl⟩
  · refine .inr ⟨g, cap, rfl, (Array.getElem?_eq_some_iff.1 hg).1, hnc, hcm, fun k j hk hj => ?_⟩
    obtain ⟨g', cap', e1, e2, _⟩ := row_cell h' (k * 4 + j) (by omega)
    cases e1
    rw [e2, flat_get mgCells 4 (fun _ => rfl) P k j hk hj, mgAt_eq hk]
theorem RMsgsAt.opened {w : World} {v : Value} {P : List (Mg × Value)} (h : RMsgsAt 0 w v P) :
    (P = [] ∧ (∃ a c, v = .slice a 0 c)) ∨ ∃ g cap, v = .slice (some ⟨g, 0, none⟩) P.length cap ∧ g < w.heap.size ∧ P.length ≤ cap ∧ cap ≤ maxLen ∧
      ∀ k j, k < P.length → j < 4 → w.cell? ⟨g, k * 4 + j, none⟩ = (rmgCells (mgAt P k))[j]? := by
  have h' := h.1
  obtain ⟨hl, h2⟩ := h.1
  rcases h2 with ⟨rfl, hn⟩ | ⟨g, cap, cur, rfl, _, hg, hnc, hcm, hcs, ht⟩
  · exact .inl ⟨List.eq_nil_of_length_eq_zero hn, _, _, rfl⟩
  · refine .inr ⟨g, cap, rfl, (Array.getElem?_eq_some_iff.1 hg).1, hnc, hcm, fun k j hk hj => ?_⟩
    obtain ⟨g', cap', e1, e2, _⟩ := row_cell h' (k * 4 + j) (by omega)
    cases e1
    rw [e2, flat_get rmgCells 4 (fun _ => rfl) P k j hk hj, mgAt_eq hk]
theorem mcells4 {w wr : World} {g k : Nat} {P : List (Mg × Value)} (hc : ∀ k j, k < P.length → j < 4 → w.cell? ⟨g, k * 4 + j, none⟩ = (mgCells (mgAt P k))[j]?) (hg : g < w.heap.size) (hb : Below w.heap.size w wr) (hk : k < P.length) :
    wr.cell? ⟨g, k * 4, none⟩ = some (.int .i64 (mgAt P k).1.pl) ∧ wr.cell? ⟨g, k * 4 + 1, none⟩ = some (.int .i64 (idNum (mgAt P k).1.id)) ∧ wr.cell? ⟨g, k * 4 + 2, none⟩ = some (.int .i64 (mgAt P k).1.sz) ∧ wr.cell? ⟨g, k * 4 + 3, none⟩ = some (mgAt P k).2 := by
  have h : ∀ j, j < 4 → wr.cell? ⟨g, k * 4 + j, none⟩ = (mgCells (mgAt P k))[j]? := fun j hj => by
    rw [hb.cell (p := ⟨g, k * 4 + j, none⟩) hg]; exact hc k j hk hj
  exact ⟨h 0 (by omega), h 1 (by omega), h 2 (by omega), h 3 (by omega)⟩
theorem rmcells4 {w wr : World} {g k : Nat} {P : List (Mg × Value)} (hc : ∀ k j, k < P.length → j < 4 → w.cell? ⟨g, k * 4 + j, none⟩ = (rmgCells (mgAt P k))[j]?) (hg : g < w.heap.size) (hb : Below w.heap.size w wr) (hk : k < P.length) :
    wr.cell? ⟨g, k * 4, none⟩ = some (.string (mgAt P k).1.id) ∧ wr.cell? ⟨g, k * 4 + 1, none⟩ = some (.int .i64 (mgAt P k).1.sz) ∧ wr.cell? ⟨g, k * 4 + 2, none⟩ = some (mgAt P k).2 ∧ wr.cell? ⟨g, k * 4 + 3, none⟩ = some (.int .i64 (mgAt P k).1.pl) := by
  have h : ∀ j, j < 4 → wr.cell? ⟨g, k * 4 + j, none⟩ = (rmgCells (mgAt P k))[j]? := fun j hj => by
    rw [hb.cell (p := ⟨g, k * 4 + j, none⟩) hg]; exact hc k j hk hj
  exact ⟨h 0 (by omega), h 1 (by omega), h 2 (by omega), h 3 (by omega)⟩

/-- The number of the message with this id's number, or -1. -/
def findM (P : List (Mg × Value)) (id : Int) : Int := findIx (fun k => decide (idNum (mgAt P k).1.id = id)) P.length

set_option maxHeartbeats 400000 in
theorem findMessage_any (v : Value) (P : List (Mg × Value)) (id : Int) (w : World) (h : MsgsAt 0 w v P) (hl : P.length ≤ 4) :
    Calls Try.prog 27 #[v, .int .i64 id] w fun e w' => e = .returned (.int .i64 (findM P id)) ∧ w' = w := by
  rcases h.opened with ⟨rfl, a, c, rfl⟩ | ⟨g, cap, rfl, hg, hcap, _, hc⟩
  · go_enter Try.func27, Try.ntmps27
    go_wp2
    refine wp_loop_rounds 1 ?_
    rw [rounds_succ]
    go_wp2
    go_ret
    exact ⟨ret_int (by simp [findM, findIx]), rfl⟩
  · have HC := hide hc
    clear hc
    go_enter Try.func27, Try.ntmps27
    go_wp2
    go_loop [5] (fun i => ∃ k : Nat, k ≤ P.length ∧ i = .int .i64 k ∧ ∀ j, j < k → decide (idNum (mgAt P j).1.id = id) = false) (fun i => P.length - (intOf i).toNat)
    case atStart => exact ⟨0, by omega, rfl, by intro j hj; omega⟩
    case round =>
      obtain ⟨k, hk, rfl, hno⟩ := hrel
      have HN := hide hno
      clear hno
      by_cases hlt : k < P.length
      · have hc1 := (mcells4 (unhide HC) hg (Below.refl _ _) hlt).2.1
        by_cases hm : idNum (mgAt P k).1.id = id
        · have hmb : (idNum (mgAt P k).1.id == id) = true := by simp [hm]
          have HM := hide hm
          clear hm
          go_wp2
          go_ret
          exact ⟨ret_int (by rw [findM, findIx_is (unhide HN) hlt (by simpa using unhide HM)]), rfl⟩
        · have hmb : (idNum (mgAt P k).1.id == id) = false := by simp [hm]
          have HM := hide hm
          clear hm
          go_wp2
          go_round
          case rel => exact ⟨k + 1, by omega, by go_num, fun j hj => by
            by_cases e : j = k
            · subst e; simpa using unhide HM
            · exact unhide HN j (by omega)⟩
          case measure => simp [intOf]; omega
      · go_wp2
        go_ret
        exact ⟨ret_int (by rw [findM, findIx_none (fun j hj => unhide HN j (by omega))]), rfl⟩

end Go.Proofs.Ytljodhcfimklkab
