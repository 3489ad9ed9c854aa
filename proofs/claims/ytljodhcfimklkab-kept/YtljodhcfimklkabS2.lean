import Derived.Test.YtljodhcfimklkabR2
import Derived.Test.YtljodhcfimklkabS1
namespace Go.Proofs.Ytljodhcfimklkab
open Go.RowKit

def mAt (M : List Mg) (k : Nat) : Mg := M.getD k noMg.1
theorem mAt_fst (P : List (Mg × Value)) (k : Nat) : mAt (P.map Prod.fst) k = (mgAt P k).1 := by
  unfold mAt mgAt
  rw [List.getD_eq_getElem?_getD, List.getD_eq_getElem?_getD, List.getElem?_map]
  cases P[k]? <;> rfl

/-- Has an earlier message the id of message n? -/
def twice (M : List Mg) (n : Nat) : Bool := anyIx (fun k => decide ((mAt M k).id = (mAt M n).id)) n
def mE (M : List Mg) (n : Nat) : Int := if twice M n then 3 else errSigsE (mAt M n).sigs (mAt M n).sz
def mP (M : List Mg) (n : Nat) : Int := if twice M n then (mAt M n).pl else errSigsP (mAt M n).sigs (mAt M n).sz
def errDbIx (M : List Mg) : Nat := firstIx (fun n => decide (mE M n ≠ 0)) M.length
/-- P3 behind the text's form: the error and its place. -/
def errDbE (M : List Mg) : Int := if errDbIx M < M.length then mE M (errDbIx M) else 0
def errDbP (M : List Mg) : Int := if errDbIx M < M.length then mP M (errDbIx M) else 0

theorem errDb_none {M : List Mg} (h : errDbIx M = M.length) : errDbE M = 0 ∧ errDbP M = 0 := by
  rw [errDbE, errDbP, h, if_neg (by omega), if_neg (by omega)]; exact ⟨rfl, rfl⟩
theorem errDb_is {M : List Mg} {k : Nat} (h : errDbIx M = k) (hk : k < M.length) : errDbE M = mE M k ∧ errDbP M = mP M k := by
  rw [errDbE, errDbP, h, if_pos hk, if_pos hk]; exact ⟨rfl, rfl⟩

theorem hex_inj {a b : Int} (ha : isHexB a = true) (hb : isHexB b = true) (h : worth a = worth b) : a = b := by
  simp [isHexB, isDigB] at ha hb
  unfold worth at h
  split at h <;> split at h <;> omega
theorem hex_lt {a : Int} (ha : isHexB a = true) : 0 ≤ worth a ∧ worth a ≤ 15 := by
  simp [isHexB, isDigB] at ha
  unfold worth; split <;> omega

theorem bytes_ext {a b : ByteArray} (hs : a.size = b.size) (h : ∀ k, k < a.size → bt a k = bt b k) : a = b := by
  apply ByteArray.ext
  apply Array.ext
  · exact hs
  · intro k h1 h2
    have := h k h1
    rw [bt, dif_pos (show k < a.size from h1), bt, dif_pos (show k < b.size from h2)] at this
    have e : (a[k]'h1).toNat = (b[k]'h2).toNat := by omega
    exact UInt8.toNat_inj.1 e

theorem idBad_all {a : ByteArray} (h : idBad a = false) : ∀ k : Nat, k < 3 → headB k (bt a k) = true := by
  intro k hk
  cases e : headB k (bt a k) with
  | true => rfl
  | false =>
    have : idBad a = true := anyIx_true.2 ⟨k, hk, by rw [e]; rfl⟩
    rw [h] at this; cases this

theorem id_inj {a b : ByteArray} (ha : a.size = 3) (hb : b.size = 3) (ga : idBad a = false) (gb : idBad b = false) : idNum a = idNum b ↔ a = b := by
  constructor
  · intro h
    rw [idNum, if_pos ha, ga, idNum, if_pos hb, gb] at h
    simp only [idTo, Bool.false_eq_true, if_false] at h
    have a0 := idBad_all ga 0 (by omega)
    have a1 := idBad_all ga 1 (by omega)
    have a2 := idBad_all ga 2 (by omega)
    have b0 := idBad_all gb 0 (by omega)
    have b1 := idBad_all gb 1 (by omega)
    have b2 := idBad_all gb 2 (by omega)
    have c0 : isHexB (bt a 0) = true := by simp [headB] at a0; simp [isHexB, isDigB]; omega
    have d0 : isHexB (bt b 0) = true := by simp [headB] at b0; simp [isHexB, isDigB]; omega
    have c1 : isHexB (bt a 1) = true := by simpa [headB] using a1
    have c2 : isHexB (bt a 2) = true := by simpa [headB] using a2
    have d1 : isHexB (bt b 1) = true := by simpa [headB] using b1
    have d2 : isHexB (bt b 2) = true := by simpa [headB] using b2
    have l0 := hex_lt c0
    have l1 := hex_lt c1
    have l2 := hex_lt c2
    have m0 := hex_lt d0
    have m1 := hex_lt d1
    have m2 := hex_lt d2
    refine bytes_ext (by omega) (fun k hk => ?_)
    obtain rfl | rfl | rfl : k = 0 ∨ k = 1 ∨ k = 2 := by omega
    · exact hex_inj c0 d0 (by omega)
    · exact hex_inj c1 d1 (by omega)
    · exact hex_inj c2 d2 (by omega)
  · rintro rfl; rfl

theorem mgAt_take (P : List (Mg × Value)) (i k : Nat) (h : k < i) : mgAt (P.take i) k = mgAt P k := by simp [mgAt, h]

theorem findM_twice {P : List (Mg × Value)} (hok : ∀ x ∈ P, x.1.Ok) {i : Nat} (hi : i < P.length) : (0 ≤ findM (P.take i) (idNum (mgAt P i).1.id)) ↔ twice (P.map Prod.fst) i = true := by
  have hlen : (P.take i).length = i := by rw [List.length_take]; omega
  have oki := hok _ (mgAt_mem hi)
  have hex : (0 ≤ findM (P.take i) (idNum (mgAt P i).1.id)) ↔ ∃ k, k < i ∧ idNum (mgAt P k).1.id = idNum (mgAt P i).1.id := by
    unfold findM findIx
    rw [hlen]
    constructor
    · intro h
      by_cases h2 : firstIx (fun k => decide (idNum (mgAt (P.take i) k).1.id = idNum (mgAt P i).1.id)) i < i
      · have := firstIx_yes _ _ h2
        rw [mgAt_take P i _ h2] at this
        exact ⟨_, h2, by simpa using this⟩
      · rw [if_neg h2] at h; omega
    · rintro ⟨k, hk, e⟩
      have hle := firstIx_le (fun k => decide (idNum (mgAt (P.take i) k).1.id = idNum (mgAt P i).1.id)) i
      by_cases h2 : firstIx (fun k => decide (idNum (mgAt (P.take i) k).1.id = idNum (mgAt P i).1.id)) i < i
      · rw [if_pos h2]; omega
      · have := firstIx_no (fun k => decide (idNum (mgAt (P.take i) k).1.id = idNum (mgAt P i).1.id)) i k (by omega)
        rw [mgAt_take P i k hk] at this
        simp [e] at this
  rw [hex, twice, anyIx_true]
  constructor
  · rintro ⟨k, hk, e⟩
    have okk := hok _ (mgAt_mem (show k < P.length by omega))
    refine ⟨k, hk, ?_⟩
    rw [mAt_fst, mAt_fst]
    simpa using (id_inj okk.id oki.id okk.good oki.good).1 e
  · rintro ⟨k, hk, e⟩
    rw [mAt_fst, mAt_fst] at e
    simp only [decide_eq_true_eq] at e
    exact ⟨k, hk, by rw [e]⟩

theorem MsgsAt.take {w : World} {a : Option Addr} {cap k : Nat} {P : List (Mg × Value)} (h : MsgsAt 0 w (.slice a P.length cap) P) (hk : k < P.length) : MsgsAt 0 w (.slice a k cap) (P.take k) := by
  have h1 := ownsRow_take h.1 k (by omega) (by omega)
  refine ⟨?_, fun x hx => h.2 x (List.mem_of_mem_take hx)⟩
  rw [flat_take mgCells 4 (fun _ => rfl) P k, List.length_take, Nat.min_eq_left (by omega)]
  exact h1

theorem sigs_ok {m : Mg} (h : m.Ok) : ∀ k, k < m.sigs.length → (sgAt m.sigs k).Ok := fun k hk => h.ok _ (by rw [sgAt_eq _ _ hk]; exact List.getElem_mem hk)

end Go.Proofs.Ytljodhcfimklkab
