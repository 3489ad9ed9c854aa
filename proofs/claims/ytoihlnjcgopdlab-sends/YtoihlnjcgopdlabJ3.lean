import Derived.Test.YtoihlnjcgopdlabJ2
import Derived.Deep.RegionHeld3
import Derived.Deep.Cut
namespace Go.Proofs.Ytoihlnjcgopdlab
open Go.RowKit

/-- P13. -/
def dfOut (s : ByteArray) : ByteArray × ByteArray × Int :=
  if 160 < s.size then (noBytes, noBytes, 1) else
  match dfL (bl s) with
  | some (x, p) => (strOfNums (hexP x 3), strOfNums p, 0)
  | none => (noBytes, noBytes, 12)
theorem dfOut_long {s : ByteArray} (h : 160 < s.size) : dfOut s = (noBytes, noBytes, 1) := by rw [dfOut, if_pos h]
theorem dfOut_some {s : ByteArray} {x : Nat} {p : List Int} (h : ¬ 160 < s.size) (hd : dfL (bl s) = some (x, p)) : dfOut s = (strOfNums (hexP x 3), strOfNums p, 0) := by rw [dfOut, if_neg h, hd]
theorem dfOut_none {s : ByteArray} (h : ¬ 160 < s.size) (hd : dfL (bl s) = none) : dfOut s = (noBytes, noBytes, 12) := by rw [dfOut, if_neg h, hd]
theorem df_eta {x : ByteArray × ByteArray × Int} {a b : ByteArray} {c : Int} (h : x = (a, b, c)) : x.1 = a ∧ x.2.1 = b ∧ x.2.2 = c := by rw [h]; exact ⟨rfl, rfl, rfl⟩

theorem hexd_worth {c : Int} (h : isHexB c = true) : hexd (worth c).toNat = c ∧ (worth c).toNat < 16 ∧ 0 ≤ worth c := by
  simp [isHexB, isDigB] at h
  unfold worth hexd
  split
  · rw [if_neg (by omega)]; omega
  · rw [if_pos (by omega)]; omega
theorem worth_hexd {x : Nat} (h : x < 16) : worth (hexd x) = x ∧ isHexB (hexd x) = true := by
  unfold worth hexd
  split
  · rw [if_neg (by omega)]; simp [isHexB, isDigB]; omega
  · rw [if_pos (by omega)]; simp [isHexB, isDigB]; omega
theorem hexP_three (x : Nat) (h : x < 2048) : hexP x 3 = [hexd (x / 256), hexd (x / 16 % 16), hexd (x % 16)] := by
  simp [hexP, List.range_succ]
  congr 1; omega
theorem hexP_byts (x : Nat) (h : x < 2048) : Byts (hexP x 3) := by
  rw [hexP_three x h]
  intro c hc
  have h0 := hexd_rng (x := x / 256) (by omega)
  have h1 := hexd_rng (x := x / 16 % 16) (by omega)
  have h2 := hexd_rng (x := x % 16) (by omega)
  simp at hc
  rcases hc with rfl | rfl | rfl <;> omega
theorem idTo_three (s : ByteArray) : idTo s 3 = 256 * worth (bt s 0) + 16 * worth (bt s 1) + worth (bt s 2) := by simp only [idTo]; omega
/-- An id is the text of its number, and the other way round. -/
theorem id_of_num {id : ByteArray} {x : Nat} (h : idNum id = x) : strOfNums (hexP x 3) = id := by
  have hx : x < 2048 := by have := idNum_lt id; omega
  rw [idNum] at h
  split at h
  · rename_i h3
    split at h
    · omega
    · rename_i hb
      have hh := idBad_no (s := id) (by simpa using hb)
      have h0 := hh 0 (by omega)
      have h1 : isHexB (bt id 1) = true := hh 1 (by omega)
      have h2 : isHexB (bt id 2) = true := hh 2 (by omega)
      have h0' : isHexB (bt id 0) = true := by simp [headB] at h0; simp [isHexB, isDigB]; omega
      have w0 : (worth (bt id 0)) < 8 := by simp [headB] at h0; unfold worth; split <;> omega
      obtain ⟨e0, l0, z0⟩ := hexd_worth h0'
      obtain ⟨e1, l1, z1⟩ := hexd_worth h1
      obtain ⟨e2, l2, z2⟩ := hexd_worth h2
      rw [idTo_three] at h
      rw [hexP_three x hx]
      have q0 : x / 256 = (worth (bt id 0)).toNat := by omega
      have q1 : x / 16 % 16 = (worth (bt id 1)).toNat := by omega
      have q2 : x % 16 = (worth (bt id 2)).toNat := by omega
      have hbl : bl id = [bt id 0, bt id 1, bt id 2] := by rw [bl, h3]; rfl
      rw [q0, q1, q2, e0, e1, e2, ← hbl, str_bl]
  · omega
theorem num_of_id {x : Nat} (h : x < 2048) : idNum (strOfNums (hexP x 3)) = x := by
  have hb := hexP_byts x h
  have hz : (strOfNums (hexP x 3)).size = 3 := by rw [strOfNums_size, hexP_three x h]; rfl
  have b0 : bt (strOfNums (hexP x 3)) 0 = hexd (x / 256) := by rw [bt_str hb, hexP_three x h]; rfl
  have b1 : bt (strOfNums (hexP x 3)) 1 = hexd (x / 16 % 16) := by rw [bt_str hb, hexP_three x h]; rfl
  have b2 : bt (strOfNums (hexP x 3)) 2 = hexd (x % 16) := by rw [bt_str hb, hexP_three x h]; rfl
  have w0 := worth_hexd (x := x / 256) (by omega)
  have w1 := worth_hexd (x := x / 16 % 16) (by omega)
  have w2 := worth_hexd (x := x % 16) (by omega)
  have hbad : idBad (strOfNums (hexP x 3)) = false := by
    refine anyIx_none (fun k hk => ?_)
    obtain rfl | rfl | rfl : k = 0 ∨ k = 1 ∨ k = 2 := by omega
    · rw [b0]; simp [headB, hexd]; split <;> omega
    · rw [b1]; show (!isHexB (hexd (x / 16 % 16))) = false; rw [w1.2]; rfl
    · rw [b2]; show (!isHexB (hexd (x % 16))) = false; rw [w2.2]; rfl
  rw [idNum, if_pos hz, hbad, if_neg (by simp), idTo_three, b0, b1, b2, w0.1, w1.1, w2.1]
  omega

/-- What is framed comes out as it went in; what is taken apart is what Frame answers. -/
theorem df_of_frm {id p F : ByteArray} (h : frmOut id p = (F, 0)) : dfOut F = (id, p, 0) := by
  rw [frmOut] at h
  split at h
  · simp at h
  · rename_i h8
    split at h
    · simp at h
    · rename_i hn
      simp only [Prod.mk.injEq, and_true] at h
      obtain ⟨x, hx⟩ : ∃ x : Nat, idNum id = x := ⟨(idNum id).toNat, by omega⟩
      rw [hx, Int.toNat_natCast] at h
      have hl := idNum_lt id
      have hlen := bl_len p
      have hfl := frmL_len (x := x) (p := bl p) (by omega)
      have hz : F.size = (frmL x (bl p)).length := by rw [← h, strOfNums_size]
      have hd : dfL (bl F) = some (x, bl p) := by rw [← h, bl_str (bits_byts (frmL_bits x (bl p))), dfL_frm (by omega) (by omega) (bl_byts p)]
      rw [dfOut_some (by omega) hd, id_of_num hx, str_bl]
theorem frm_of_df {s a p : ByteArray} (h : dfOut s = (a, p, 0)) : frmOut a p = (s, 0) := by
  rw [dfOut] at h
  split at h
  · simp at h
  · cases hd : dfL (bl s) with
    | none => rw [hd] at h; simp at h
    | some xp =>
      obtain ⟨x, q⟩ := xp
      obtain ⟨hx, hq, hb, he⟩ := dfL_some hd
      rw [hd] at h
      simp only [Prod.mk.injEq, and_true] at h
      obtain ⟨rfl, rfl⟩ := h
      rw [frmOut, if_neg (by rw [strOfNums_size]; omega), num_of_id hx, if_neg (by omega), Int.toNat_natCast, bl_str hb, he, str_bl]
theorem dfOut_err (s : ByteArray) : (160 < s.size ∧ dfOut s = (noBytes, noBytes, 1)) ∨ (¬ 160 < s.size ∧ dfOut s = (noBytes, noBytes, 12)) ∨ (¬ 160 < s.size ∧ ∃ a p, dfOut s = (a, p, 0)) := by
  by_cases h : 160 < s.size
  · exact .inl ⟨h, dfOut_long h⟩
  · cases hd : dfL (bl s) with
    | none => exact .inr (.inl ⟨h, dfOut_none h hd⟩)
    | some xp => exact .inr (.inr ⟨h, _, _, dfOut_some h hd⟩)
theorem frmOut_ok {id p : ByteArray} (h8 : p.size ≤ 8) (h3 : id.size = 3) (hb : idBad id = false) : ∃ F, frmOut id p = (F, 0) := by
  have h0 : 0 ≤ idNum id := by
    have hh := idBad_no hb
    have h0 := hh 0 (by omega)
    have h1 := hh 1 (by omega)
    have h2 := hh 2 (by omega)
    simp [headB, isHexB, isDigB] at h0 h1 h2
    rw [idNum, if_pos h3, hb, if_neg (by simp), idTo_three]
    simp only [worth]
    split <;> split <;> split <;> omega
  exact ⟨_, by rw [frmOut, if_neg (by omega), if_neg (by omega)]⟩
theorem frm_sizes {id p F : ByteArray} (h : frmOut id p = (F, 0)) : id.size = 3 ∧ p.size ≤ 8 := by
  rw [frmOut] at h
  split at h
  · simp at h
  · split at h
    · simp at h
    · rename_i hn
      refine ⟨?_, by omega⟩
      rw [idNum] at hn
      split at hn
      · assumption
      · omega

end Go.Proofs.Ytoihlnjcgopdlab

namespace Go.Proofs.Ytoihlnjcgopdlab
open Go.RowKit

theorem unst_mem : ∀ (xs : List Int) (run : Nat) (last : Int), ∀ c ∈ unstL run last xs, c ∈ xs := by
  intro xs
  induction xs with
  | nil => intro run last c hc; simp [unstL] at hc
  | cons x t ih =>
    intro run last c hc
    rw [unstL] at hc
    split at hc
    · exact List.mem_cons_of_mem _ (ih _ _ c hc)
    · rcases List.mem_cons.1 hc with rfl | hc
      · exact List.mem_cons_self
      · exact List.mem_cons_of_mem _ (ih _ _ c hc)
theorem bl_cut (s : ByteArray) (n : Nat) (h : n ≤ s.size) : bl (s.extract 0 n) = (bl s).take n := by
  apply List.ext_getElem
  · rw [bl_len, ByteArray.size_extract, List.length_take, bl_len]; omega
  · intro i h1 h2
    rw [bl_len, ByteArray.size_extract] at h1
    rw [List.getElem_take]
    simp only [bl, List.getElem_map, List.getElem_range]
    have := bt_extract s 0 n i (by omega) (by omega)
    simpa using this
theorem cut_byts (s : ByteArray) : Byts (cutL (bl s)) := fun c hc => bl_byts s c (List.mem_of_mem_take (unst_mem _ _ _ c hc))
theorem val_extract {B : List Int} (hB : Byts B) (i n : Nat) (h : i + n ≤ B.length) : valT (bt ((strOfNums B).extract i (i + n))) n = valT (fun k => B.getD (i + k) 0) n := by
  refine valT_ext (fun k hk => ?_)
  rw [bt_extract _ _ _ _ hk (by rw [strOfNums_size]; exact h), bt_str hB]

/-- What frameParts answers. -/
def PartsOut (s : ByteArray) (e : Ending) : Prop :=
  (¬ partsOk (bl s) ∧ e = .returned (.tuple #[.int .i64 0, .string { data := #[] }, .bool false])) ∨
    (partsOk (bl s) ∧ e = .returned (.tuple #[.int .i64 (xOf (cutL (bl s))), .string (strOfNums (pOf (cutL (bl s)) (nOf (cutL (bl s))))), .bool true]))

set_option maxRecDepth 100000 in
set_option maxHeartbeats 2000000 in
theorem frameParts_any (s : ByteArray) (w : World) (hs : s.size ≤ 160) :
    Calls Try.prog 37 #[.string s] w fun e w' => PartsOut s e ∧ Below w.heap.size w w' := by
  obtain ⟨i0, hinf, hz0, hz1, hz2⟩ := info_parts Try.infoU8
  have HINF := hide hinf
  have HZ0 := hide hz0
  have HZ1 := hide hz1
  have HZ2 := hide hz2
  clear hinf hz0 hz1 hz2
  by_cases h10 : s.size < 10
  · have HN := hide (show ¬ partsOk (bl s) from fun h => by have := h.1; rw [bl_len] at this; omega)
    go_enter Try.func37, Try.ntmps37
    go_wp2
    go_ret3
    exact ⟨.inl ⟨unhide HN, rfl⟩, Below.refl _ _⟩
  obtain ⟨B, hB⟩ : ∃ B, B = cutL (bl s) := ⟨_, rfl⟩
  have hBb : Byts B := by rw [hB]; exact cut_byts s
  have hBl : B.length ≤ 160 := by
    rw [hB, cutL]
    have := unst_up ((bl s).take ((bl s).length - 10)) 0 0
    rw [List.length_take, bl_len] at this; rw [bl_len]; omega
  have HCUT := hide (show strOfNums (unstL 0 0 (bl (s.extract 0 (s.size - 10)))) = strOfNums B by rw [bl_cut s _ (by omega), hB, cutL, bl_len])
  have HPO := hide (show partsOk (bl s) ↔ (19 ≤ B.length ∧ nOf B ≤ 8 ∧ B.length = 34 + 8 * nOf B) by rw [partsOk, ← hB, bl_len]; constructor; (intro h; exact h.2); (intro h; exact ⟨by omega, h⟩))
  have HBE := hide hB
  have HBB := hide hBb
  have hbz := strOfNums_size B
  clear hB hBb
  go_enter Try.func37, Try.ntmps37
  go_wp2_with fail
  refine (unstuffed_any _ _ (by rw [ByteArray.size_extract]; omega)).mono ?_
  rintro e w1 ⟨rfl, hb1⟩
  have HB1 := hide hb1
  clear hb1
  rw [unhide HCUT]
  by_cases h19 : B.length < 19
  · have HNP := hide (show ¬ partsOk (bl s) from fun h => by have := ((unhide HPO).1 h).1; omega)
    go_wp2
    go_ret3
    exact ⟨.inl ⟨unhide HNP, rfl⟩, unhide HB1⟩
  have hx1 : ((strOfNums B).extract 1 12).size = 11 := by rw [ByteArray.size_extract, hbz]; omega
  have hx2 : ((strOfNums B).extract 15 19).size = 4 := by rw [ByteArray.size_extract, hbz]; omega
  obtain ⟨x, hx⟩ : ∃ x, x = xOf B := ⟨_, rfl⟩
  have hxl : x < 2048 := by rw [hx]; exact xOf_lt B
  obtain ⟨n, hn⟩ : ∃ n, n = nOf B := ⟨_, rfl⟩
  have hn16 : n < 16 := by rw [hn]; exact nOf_lt B
  have HVX := hide (show valT (bt ((strOfNums B).extract 1 12)) ((strOfNums B).extract 1 12).size = x by rw [hx1, hx, xOf]; exact val_extract (unhide HBB) 1 11 (by omega))
  have HVN := hide (show valT (bt ((strOfNums B).extract 15 19)) ((strOfNums B).extract 15 19).size = n by rw [hx2, hn, nOf]; exact val_extract (unhide HBB) 15 4 (by omega))
  have HXX := hide hx
  rw [← hn] at HPO
  have HNN := hide hn
  clear hx hn
  go_wp2_with fail
  refine (textNumber_any _ _ (by omega)).mono ?_
  rintro e w2 ⟨rfl, rfl⟩
  rw [unhide HVX]
  go_wp2_with fail
  refine (textNumber_any _ _ (by omega)).mono ?_
  rintro e w3 ⟨rfl, rfl⟩
  rw [unhide HVN]
  by_cases h8 : 8 < n
  · have HNP := hide (show ¬ partsOk (bl s) from fun h => by have := ((unhide HPO).1 h).2.1; omega)
    go_wp2
    go_ret3
    exact ⟨.inl ⟨unhide HNP, rfl⟩, unhide HB1⟩
  by_cases hlen : B.length = 34 + 8 * n
  case neg =>
    have HNP := hide (show ¬ partsOk (bl s) from fun h => hlen ((unhide HPO).1 h).2.2)
    have hnb : ((B.length : Int) != 19 + 8 * (n : Int) + 15) = true := by simp; omega
    clear hlen
    go_wp2
    go_ret3
    exact ⟨.inl ⟨unhide HNP, rfl⟩, unhide HB1⟩
  have HOK := hide ((unhide HPO).2 ⟨by omega, by omega, hlen⟩)
  have hnb : ((B.length : Int) != 19 + 8 * (n : Int) + 15) = false := by simp; omega
  have hle : 34 + 8 * n ≤ B.length := by omega
  clear hlen HPO
  go_wp2
  go_loopw [8, 9, 10, 11] (fun v i _ _ wr => ∃ k : Nat, k ≤ n ∧ i = .int .i64 k ∧ wr.ownsRow w3.heap.size 5 1 v k ((pOf B k).map (Value.int .u8)) ∧ Below w3.heap.size w3 wr) (fun _ i _ _ _ => n - (intOf i).toNat)
  case atStart => exact ⟨0, by omega, rfl, ⟨by simp [pOf], .inr ⟨_, 0, #[], rfl, Nat.le_refl _, blk_new _ _, by simp, by simp [maxLen], by simp, by simp [pOf]⟩⟩, (Below.refl _ _).alloc (Nat.le_refl _) _⟩
  case round =>
    obtain ⟨k, hk, rfl, hown, hb⟩ := hrel
    obtain ⟨sa, cap, rfl⟩ := ownsRow_form hown
    have HOWN := hide hown
    have HB := hide hb
    clear hown hb
    by_cases hlt : k < n
    · obtain ⟨y, hy⟩ : ∃ y, y = valT (fun j => B.getD (19 + 8 * k + j) 0) 8 := ⟨_, rfl⟩
      have hyz : ((strOfNums B).extract (19 + 8 * k) (19 + 8 * k + 8)).size = 8 := by rw [ByteArray.size_extract, hbz]; omega
      have HY := hide (show valT (bt ((strOfNums B).extract (19 + 8 * k) (19 + 8 * k + 8))) ((strOfNums B).extract (19 + 8 * k) (19 + 8 * k + 8)).size = y by rw [hyz, hy]; exact val_extract (unhide HBB) (19 + 8 * k) 8 (by omega))
      have hyl : y < 256 := by rw [hy]; exact valT_lt _ 8
      have HYY := hide hy
      clear hy
      go_wp2_with fail
      refine (textNumber_any ((strOfNums B).extract (19 + 8 * k) (19 + 8 * k + 8)) _ (by omega)).mono ?_
      rintro e w4 ⟨rfl, rfl⟩
      rw [unhide HY]
      go_wp2_with (at_builtin; refine wpList_append_own _ rfl _ _ 66 rfl w3.heap.size 5 i0 _ 1 1 Try.underlying66 (unhide HINF) (unhide HZ0) (unhide HZ1) (unhide HZ2) rfl (by decide) _ _ _ rfl ((unhide HOWN).alloc _) ⟨w4.heap.size, 0, none⟩ 1 1 [.int .u8 (y : Int)] rfl rfl ?c1 ?c2 ?c3 ?c4 ?c5 ?_)
      case c1 => exact new_cells (blk_new _ _)
      case c2 => simp [Value.oneCell']
      case c3 => unfold maxLen; omega
      case c4 => omega
      case c5 => have := (unhide HB).size; simp; omega
      intro v5 w5 hown5 hgrow _
      obtain ⟨a5, cap5, rfl⟩ := ownsRow_form hown5
      have HB5 := hide (Below.grown ((unhide HB).alloc (unhide HB).size _) hgrow (by have := (unhide HB).size; simp; omega) (fun k hk => ((unhide HOWN).lt k hk).1))
      have HOWN5 := hide hown5
      clear hown5 hgrow
      go_wp2
      go_roundw
      case rel =>
        refine ⟨k + 1, by omega, by go_num, ?_, unhide HB5⟩
        have := unhide HOWN5
        rw [pOf_succ, List.map_append, ← unhide HYY]
        exact this
      case measure => simp [intOf]; omega
    · obtain rfl : k = n := by omega
      have hconv := fun (wx : World) (h : wx.ownsRow w3.heap.size 5 1 (.slice sa k cap) k ((pOf B k).map (Value.int .u8)) ∧ Below w3.heap.size w3 wx) => conv_row h.1
      go_wp2
      refine wp_region_noPanic ?_
      refine wp_region_held_drew (S := fun wx => wx.ownsRow w3.heap.size 5 1 (.slice sa k cap) k ((pOf B k).map (Value.int .u8)) ∧ Below w3.heap.size w3 wx) (by kernel_rfl) ⟨(unhide HOWN).drew, (unhide HB).drew⟩ (fun hHeld => ?_)
      refine wpAnyH_take (i := 0) (v := ?_) (at_list rfl) (by kernel_rfl) (by kernel_rfl) (by kernel_rfl) (fun _ _ _ h => h) (Or.inl ⟨by rfl, ?_⟩) (by assumption) ?_
      rotate_left
      · intro w hSw; (try dsimp only at hSw); first | (go_simp; done) | (go_simp; with_reducible rfl)
      try simp only [Act.put]
      try simp only [List.setIfInBounds_toArray]
      try simp only [List.set_cons_succ]
      try simp only [List.set_cons_zero]
      refine wpAnyH_take (i := 1) (v := ?_) (at_list rfl) (by kernel_rfl) (by kernel_rfl) (by kernel_rfl) (fun _ _ _ h => h) (Or.inl ⟨by rfl, ?_⟩) (by assumption) ?_
      rotate_left
      · intro w hSw; (try dsimp only at hSw); first | (go_simp; done) | (go_simp; with_reducible rfl)
      try simp only [Act.put]
      try simp only [List.setIfInBounds_toArray]
      try simp only [List.set_cons_succ]
      try simp only [List.set_cons_zero]
      refine wpAnyH_take (i := 2) (v := ?_) (at_list rfl) (by kernel_rfl) (by kernel_rfl) (by kernel_rfl) (fun _ _ _ h => h) (Or.inl ⟨by rfl, ?_⟩) (by assumption) ?_
      rotate_left
      · intro w hSw; (try dsimp only at hSw); first | (go_simp; done) | (go_simp; with_reducible rfl)
      try simp only [Act.put]
      try simp only [List.setIfInBounds_toArray]
      try simp only [List.set_cons_succ]
      try simp only [List.set_cons_zero]
      refine wpAnyH_take (i := 3) (v := ?_) (at_list rfl) (by kernel_rfl) (by kernel_rfl) (by kernel_rfl) (fun _ _ _ h => h) (Or.inl ⟨by rfl, ?_⟩) (by assumption) ?_
      rotate_left
      · intro w hSw; (try dsimp only at hSw); first | (go_simp; done) | (go_simp; with_reducible rfl)
      try simp only [Act.put]
      try simp only [List.setIfInBounds_toArray]
      try simp only [List.set_cons_succ]
      try simp only [List.set_cons_zero]
      refine wpAnyH_take (i := 4) (v := ?_) (at_list rfl) (by kernel_rfl) (by kernel_rfl) (by kernel_rfl) (fun _ _ _ h => h) (Or.inl ⟨by rfl, ?_⟩) (by assumption) ?_
      rotate_left
      · intro w hSw; (try dsimp only at hSw); first | (go_simp; done) | (go_simp; with_reducible rfl)
      try simp only [Act.put]
      try simp only [List.setIfInBounds_toArray]
      try simp only [List.set_cons_succ]
      try simp only [List.set_cons_zero]
      refine wpAnyH_take (i := 5) (v := ?_) (at_list rfl) (by kernel_rfl) (by kernel_rfl) (by kernel_rfl) (fun _ _ _ h => h) (Or.inl ⟨by rfl, ?_⟩) (by assumption) ?_
      rotate_left
      · intro w hSw; (try dsimp only at hSw); first | (go_simp; done) | (go_simp; with_reducible rfl)
      try simp only [Act.put]
      try simp only [List.setIfInBounds_toArray]
      try simp only [List.set_cons_succ]
      try simp only [List.set_cons_zero]
      refine wpAnyH_done (by kernel_rfl) ?_ _
      refine NoPanic.normal ?_
      have HB6 := hide ((unhide HB1).trans (hHeld.2.mono (unhide HB1).size))
      clear hHeld hconv
      go_wp2
      go_ret3
      exact ⟨.inr ⟨unhide HOK, by rw [← unhide HBE, ← unhide HNN, ← unhide HXX]; rfl⟩, unhide HB6⟩

end Go.Proofs.Ytoihlnjcgopdlab

namespace Go.Proofs.Ytoihlnjcgopdlab
open Go.RowKit

set_option maxRecDepth 100000 in
set_option maxHeartbeats 2000000 in
theorem Deframe_any (s : ByteArray) (w : World) :
    Calls Try.prog 14 #[.string s] w fun e w' => e = .returned (.tuple #[.string (dfOut s).1, .string (dfOut s).2.1, .int .i64 (dfOut s).2.2]) ∧ Below w.heap.size w w' := by
  by_cases hl : 160 < s.size
  · have HD := hide (dfOut_long hl)
    go_enter Try.func14, Try.ntmps14
    go_wp2
    go_ret3
    exact ⟨by rw [unhide HD]; rfl, Below.refl _ _⟩
  go_enter Try.func14, Try.ntmps14
  go_wp2_with fail
  refine (frameParts_any s _ (by omega)).mono ?_
  rintro e w1 ⟨hout, hb1⟩
  have HB1 := hide hb1
  clear hb1
  rcases hout with ⟨hno, rfl⟩ | ⟨hyes, rfl⟩
  · have HO := hide (df_eta (dfOut_none hl (df_none (fun h => hno h.1))))
    clear hno
    go_wp2
    go_ret3
    exact ⟨by rw [(unhide HO).1, (unhide HO).2.1, (unhide HO).2.2]; rfl, unhide HB1⟩
  obtain ⟨B, hB⟩ : ∃ B, B = cutL (bl s) := ⟨_, rfl⟩
  have hn8 : nOf B ≤ 8 := by rw [hB]; exact hyes.2.2.1
  have HDP := hide (show frmL (xOf B) (pOf B (nOf B)) = bl s → dfL (bl s) = some (xOf B, pOf B (nOf B)) by rw [hB]; exact df_parts hyes)
  have HDN := hide (show ¬ frmL (xOf B) (pOf B (nOf B)) = bl s → dfL (bl s) = none by rw [hB]; exact fun h => df_none (fun h' => h h'.2))
  rw [← hB]
  clear hB hyes
  have hx := xOf_lt B
  have HPB := hide (bl_str (pOf_byts B (nOf B)))
  have hpz := strOfNums_size (pOf B (nOf B))
  rw [pOf_len] at hpz
  generalize xOf B = x at *
  generalize pOf B (nOf B) = q at *
  generalize nOf B = n at *
  obtain ⟨p, HP⟩ : ∃ p, Hid (p = strOfNums q) := ⟨_, hide rfl⟩
  rw [← unhide HP] at HPB hpz
  rw [← unhide HP]
  go_wp2_with fail
  refine (frameText_any x p _ hx (by omega)).mono ?_
  rintro e w2 ⟨rfl, hb2⟩
  have HB2 := hide ((unhide HB1).trans (hb2.mono (unhide HB1).size))
  clear hb2
  rw [unhide HPB]
  by_cases heq : frmL x q = bl s
  · have HO := hide (df_eta (dfOut_some hl (unhide HDP heq)))
    have hse : strOfNums (frmL x q) = s := by rw [heq, str_bl]
    rw [hse]
    clear hse heq
    go_wp2_with fail
    refine (idText_any x _ hx).mono ?_
    rintro e w3 ⟨rfl, hb3⟩
    have HB3 := hide ((unhide HB2).trans (hb3.mono (unhide HB2).size))
    clear hb3
    go_wp2
    go_ret3
    exact ⟨by rw [(unhide HO).1, (unhide HO).2.1, (unhide HO).2.2, ← unhide HP]; rfl, unhide HB3⟩
  · have HO := hide (df_eta (dfOut_none hl (unhide HDN heq)))
    have hne : strOfNums (frmL x q) ≠ s := fun h => heq (by rw [← h, bl_str (bits_byts (frmL_bits _ _))])
    obtain ⟨F, hFe⟩ : ∃ F, F = strOfNums (frmL x q) := ⟨_, rfl⟩
    rw [← hFe] at hne
    rw [← hFe]
    have hnb : (F.toList == s.toList) = false := str_ne hne
    clear heq hFe
    go_wp2
    go_ret3
    exact ⟨by rw [(unhide HO).1, (unhide HO).2.1, (unhide HO).2.2]; rfl, unhide HB2⟩

end Go.Proofs.Ytoihlnjcgopdlab

namespace Go.Proofs.Ytoihlnjcgopdlab
open Go.RowKit

/-- 'string([]byte{c})'. -/
theorem conv_one (w : World) (c : Int) : (convert 66 9 (.slice (some ⟨w.heap.size, 0, none⟩) 1 1)).run Try.prog (w.alloc (.cells #[.int .u8 c] 5)) = .ok (.string (strOfNums [c])) (w.alloc (.cells #[.int .u8 c] 5)) :=
  conv_row (B := 0) (n := 1) (xs := [c]) ⟨rfl, .inr ⟨_, 1, _, rfl, Nat.zero_le _, blk_new _ _, Nat.le_refl _, by simp [maxLen], rfl, rfl⟩⟩

set_option maxHeartbeats 400000 in
theorem digit_any (x : Int) (w : World) (h0 : 0 ≤ x) (h1 : x ≤ 9) :
    Calls Try.prog 66 #[.int .i64 x] w fun e w' => e = .returned (.string (strOfNums [48 + x])) ∧ Below w.heap.size w w' := by
  have hw : IntKind.u8.wrap (48 + x) = 48 + x := by rw [IntKind.wrap_u8]; omega
  have hconv := conv_one w (48 + x)
  go_enter Try.func66, Try.ntmps66
  go_wp2
  go_ret
  exact ⟨rfl, (Below.refl _ _).alloc (Nat.le_refl _) _⟩

set_option maxRecDepth 100000 in
set_option maxHeartbeats 1000000 in
theorem number_any (v n : Nat) (w : World) (hv : v < 65536) (hn : n ≤ 16) :
    Calls Try.prog 33 #[.int .i64 v, .int .i64 n] w fun e w' => e = .returned (.string (strOfNums (numP v n n))) ∧ Below w.heap.size w w' := by
  go_enter Try.func33, Try.ntmps33
  go_wp2
  go_loopw [5, 6] (fun t i wr => ∃ k : Nat, k ≤ n ∧ i = .int .i64 ((n : Int) - 1 - (k : Int)) ∧ t = .string (strOfNums (numP v n k)) ∧ Below w.heap.size w wr) (fun _ i _ => (intOf i + 1).toNat)
  case atStart => exact ⟨0, by omega, by go_num, rfl, Below.refl _ _⟩
  case round =>
    obtain ⟨k, hk, rfl, rfl, hb⟩ := hrel
    have HB := hide hb
    clear hb
    by_cases hlt : k < n
    · obtain ⟨j, hj⟩ : ∃ j, j = n - 1 - k := ⟨_, rfl⟩
      have hji : (n : Int) - 1 - (k : Int) = j := by omega
      rw [hji]
      have HJ := hide hj
      have hbs := dig_and v j hv
      have hdb : v / 2 ^ j % 2 < 2 := Nat.mod_lt _ (by omega)
      obtain ⟨d, hd⟩ : ∃ d, d = v / 2 ^ j % 2 := ⟨_, rfl⟩
      have HN := hide (show strOfNums (numP v n (k + 1)) = strOfNums (numP v n k) ++ strOfNums [48 + (d : Int)] by rw [numP_succ, str_app, ← hj, dig, hd])
      rw [← hd] at hbs hdb
      have hj15 : j ≤ 15 := by omega
      clear hd hj hji
      have hz1 := strOfNums_size (numP v n k)
      rw [numP_len] at hz1
      have hz2 := strOfNums_size [48 + (d : Int)]
      simp only [List.length_cons, List.length_nil] at hz2
      go_wp2_with fail
      refine (digit_any _ _ (by omega) (by omega)).mono ?_
      rintro e w2 ⟨rfl, hb2⟩
      have HB2 := hide ((unhide HB).trans (hb2.mono (unhide HB).size))
      clear hb2
      go_wp2
      go_roundw
      case rel => exact ⟨k + 1, by omega, by have := unhide HJ; go_num, by rw [unhide HN], unhide HB2⟩
      case measure => simp [intOf]
    · have HK := hide (show k = n by omega)
      rw [show (n : Int) - 1 - (k : Int) = -1 by omega]
      go_wp2
      go_ret
      exact ⟨by rw [← unhide HK]; try rfl, unhide HB⟩

/-- An id. -/
def idOkB (s : ByteArray) : Bool := decide (s.size = 3) && !idBad s
theorem idOk_num (s : ByteArray) : idOkB s = decide (0 ≤ idNum s) := by
  rw [idOkB, idNum]
  by_cases h3 : s.size = 3
  · cases hb : idBad s with
    | true => simp [h3]
    | false =>
      have hh := idBad_no hb
      have h0 := hh 0 (by omega)
      have h1 := hh 1 (by omega)
      have h2 := hh 2 (by omega)
      simp [headB, isHexB, isDigB] at h0 h1 h2
      have : 0 ≤ idTo s 3 := by
        simp only [idTo, worth]
        split <;> split <;> split <;> omega
      simp [h3, this]
  · simp [h3]

theorem idBad_eq (s : ByteArray) : idBad s = !(headB 0 (bt s 0) && (isHexB (bt s 1) && isHexB (bt s 2))) := by
  have e1 : headB 1 (bt s 1) = isHexB (bt s 1) := rfl
  have e2 : headB 2 (bt s 2) = isHexB (bt s 2) := rfl
  rw [← e1, ← e2, Bool.eq_iff_iff, idBad, anyIx_true]
  constructor
  · rintro ⟨k, hk, h⟩
    obtain rfl | rfl | rfl : k = 0 ∨ k = 1 ∨ k = 2 := by omega
    · have h' : headB 0 (bt s 0) = false := by simpa using h
      rw [h']; rfl
    · have h' : headB 1 (bt s 1) = false := by simpa using h
      rw [h']; simp
    · have h' : headB 2 (bt s 2) = false := by simpa using h
      rw [h']; simp
  · intro h
    cases h0 : headB 0 (bt s 0) with
    | false => exact ⟨0, by omega, by simpa using h0⟩
    | true =>
      cases h1 : headB 1 (bt s 1) with
      | false => exact ⟨1, by omega, by simpa using h1⟩
      | true =>
        cases h2 : headB 2 (bt s 2) with
        | false => exact ⟨2, by omega, by simpa using h2⟩
        | true => rw [h0, h1, h2] at h; cases h

set_option maxHeartbeats 400000 in
theorem hex_any (c : Int) (w : World) (h : isHexB c = true) :
    Calls Try.prog 34 #[.int .u8 c] w fun e w' => e = .returned (.int .i64 (worth c)) ∧ w' = w := by
  cases hd : isDigB c with
  | true =>
    have hd' := hd
    simp [isDigB] at hd'
    have HW := hide (show worth c = c - 48 by rw [worth, if_neg (by omega)])
    obtain ⟨d0, d1⟩ := hd'
    go_enter Try.func34, Try.ntmps34
    go_wp2_with (go_at_call 46; refine (rIsDigit_any _ _).mono ?_; rintro e w' ⟨rfl, rfl⟩)
    go_ret
    exact ⟨ret_int (by rw [unhide HW]), rfl⟩
  | false =>
    have hr : 65 ≤ c ∧ c ≤ 70 := by simpa [isHexB, hd] using h
    obtain ⟨d0, d1⟩ := hr
    have HW := hide (show worth c = c - 55 by rw [worth, if_pos (by omega)])
    go_enter Try.func34, Try.ntmps34
    go_wp2_with (go_at_call 46; refine (rIsDigit_any _ _).mono ?_; rintro e w' ⟨rfl, rfl⟩)
    go_ret
    exact ⟨ret_int (by rw [unhide HW]; go_num), rfl⟩

set_option maxHeartbeats 1000000 in
theorem rIsId_any (s : ByteArray) (w : World) (hs : s.size ≤ maxLen) :
    Calls Try.prog 32 #[.string s] w fun e w' => e = .returned (.bool (idOkB s)) ∧ w' = w := by
  unfold maxLen at hs
  by_cases h3 : s.size = 3
  · have h3b : ((s.size : Int) == 3) = true := by rw [h3]; rfl
    have l0 : 0 < s.size := by omega
    have l1 : 1 < s.size := by omega
    have l2 : 2 < s.size := by omega
    have HV := hide (show idOkB s = (headB 0 (s[0].toNat : Int) && (isHexB (s[1].toNat : Int) && isHexB (s[2].toNat : Int))) by rw [idOkB, idBad_eq, bt_of l0, bt_of l1, bt_of l2]; simp [h3])
    clear h3
    cases hb0 : headB 0 (s[0].toNat : Int) with
    | false =>
      rw [hb0] at HV
      go_enter Try.func32, Try.ntmps32
      go_wp2_with (first | (go_at_call 64; refine (rHeaded_any _ _ _ (by omega) (by omega)).mono ?_; rintro e w' ⟨rfl, rfl⟩) | (go_at_call 65; refine (rIsHex_any _ _).mono ?_; rintro e w' ⟨rfl, rfl⟩))
      go_ret
      exact ⟨ret_bool (by rw [unhide HV]; rfl), rfl⟩
    | true =>
      cases hb1 : isHexB (s[1].toNat : Int) with
      | false =>
        rw [hb0, hb1] at HV
        go_enter Try.func32, Try.ntmps32
        go_wp2_with (first | (go_at_call 64; refine (rHeaded_any _ _ _ (by omega) (by omega)).mono ?_; rintro e w' ⟨rfl, rfl⟩) | (go_at_call 65; refine (rIsHex_any _ _).mono ?_; rintro e w' ⟨rfl, rfl⟩))
        go_ret
        exact ⟨ret_bool (by rw [unhide HV]; rfl), rfl⟩
      | true =>
        rw [hb0, hb1] at HV
        go_enter Try.func32, Try.ntmps32
        go_wp2_with (first | (go_at_call 64; refine (rHeaded_any _ _ _ (by omega) (by omega)).mono ?_; rintro e w' ⟨rfl, rfl⟩) | (go_at_call 65; refine (rIsHex_any _ _).mono ?_; rintro e w' ⟨rfl, rfl⟩))
        go_ret
        exact ⟨ret_bool (by rw [unhide HV]; rfl), rfl⟩
  · have h3b : ((s.size : Int) == 3) = false := by simp; omega
    have HV := hide (show idOkB s = false by simp [idOkB, h3])
    clear h3
    go_enter Try.func32, Try.ntmps32
    go_wp2
    go_ret
    exact ⟨ret_bool (by rw [unhide HV]), rfl⟩

end Go.Proofs.Ytoihlnjcgopdlab

namespace Go.Proofs.Ytoihlnjcgopdlab
open Go.RowKit

theorem top_and (c : Nat) (hc : c < 32768) : bits BinOp.and IntKind.i64 ((2 * (c : Int)) / 32768) 1 = if 32768 ≤ 2 * c then 1 else 0 := by
  have e : (2 * (c : Int)) / 32768 = ((2 * c / 32768 : Nat) : Int) := by omega
  have h1 := i64_and_nat (2 * c / 32768) 1 (by omega) (by omega)
  rw [show ((1 : Nat) : Int) = 1 from rfl] at h1
  rw [e, h1, Nat.and_one_is_mod]
  split <;> omega
theorem low_and (y : Nat) (hy : y < 65536) : bits BinOp.and IntKind.i64 (y : Int) 32767 = ((y % 32768 : Nat) : Int) := by
  have h1 := i64_and_nat y 32767 (by omega) (by omega)
  rw [show ((32767 : Nat) : Int) = 32767 from rfl] at h1
  rw [h1, show (32767 : Nat) = 2 ^ 15 - 1 from rfl, Nat.and_two_pow_sub_one_eq_mod]

set_option maxRecDepth 100000 in
set_option maxHeartbeats 1000000 in
theorem rSum_any (s : ByteArray) (w : World) (hs : s.size ≤ 1000) (hbit : ∀ k, k < s.size → bt s k = 48 ∨ bt s k = 49) :
    Calls Try.prog 35 #[.string s] w fun e w' => e = .returned (.int .i64 (sumF (bt s) s.size)) ∧ w' = w := by
  have HBIT := hide hbit
  clear hbit
  go_enter Try.func35, Try.ntmps35
  go_wp2
  go_loop [3, 4] (fun v r => ∃ k : Nat, k ≤ s.size ∧ r = .int .i64 k ∧ v = .int .i64 (sumF (bt s) k)) (fun _ r => s.size - (intOf r).toNat)
  case atStart => exact ⟨0, by omega, rfl, rfl⟩
  case round =>
    obtain ⟨k, hk, rfl, rfl⟩ := hrel
    have hc := sumF_lt (bt s) k
    by_cases hlt : k < s.size
    · have e := bt_of hlt
      obtain ⟨c, hcc⟩ : ∃ c, c = sumF (bt s) k := ⟨_, rfl⟩
      have HS := hide (show sumF (bt s) (k + 1) = sumStep c (bt s k) by rw [sumF, hcc])
      rw [← hcc] at hc
      rw [← hcc]
      clear hcc
      have hx := i64_xor_nat (2 * c) 17817 (by omega) (by omega)
      rw [show ((17817 : Nat) : Int) = 17817 from rfl, show ((2 * c : Nat) : Int) = 2 * (c : Int) by omega] at hx
      have hxl : (2 * c) ^^^ 17817 < 65536 := Nat.xor_lt_two_pow (n := 16) (by omega) (by omega)
      obtain ⟨y, hy⟩ : ∃ y, y = (2 * c) ^^^ 17817 := ⟨_, rfl⟩
      rw [← hy] at hx hxl
      have ht := top_and c hc
      have hl1 := low_and y hxl
      have hl2 := low_and (2 * c) (by omega)
      rw [show ((2 * c : Nat) : Int) = 2 * (c : Int) by omega] at hl2
      rcases unhide HBIT k hlt with h1 | h1
      · have hb : (s[k].toNat : Int) = 48 := by rw [e, h1]
        by_cases h2 : 32768 ≤ 2 * c
        · have HV := hide (show sumStep c (bt s k) = y % 32768 by rw [sum_ft (by omega) h2, hy])
          rw [if_pos h2] at ht
          clear e h1 hy
          go_wp2
          go_round
          case rel => exact ⟨k + 1, by omega, by go_num, by rw [unhide HS, unhide HV]; go_num⟩
          case measure => simp [intOf]; omega
        · have HV := hide (sum_ff (b := bt s k) (by omega) h2)
          rw [if_neg h2] at ht
          clear e h1 hy
          go_wp2
          go_round
          case rel => exact ⟨k + 1, by omega, by go_num, by rw [unhide HS, unhide HV]; go_num⟩
          case measure => simp [intOf]; omega
      · have hb : (s[k].toNat : Int) = 49 := by rw [e, h1]
        by_cases h2 : 32768 ≤ 2 * c
        · have HV := hide (sum_tt h1 h2)
          rw [if_pos h2] at ht
          clear e h1 hy
          go_wp2
          go_round
          case rel => exact ⟨k + 1, by omega, by go_num, by rw [unhide HS, unhide HV]; go_num⟩
          case measure => simp [intOf]; omega
        · have HV := hide (show sumStep c (bt s k) = y % 32768 by rw [sum_tf h1 h2, hy])
          rw [if_neg h2] at ht
          clear e h1 hy
          go_wp2
          go_round
          case rel => exact ⟨k + 1, by omega, by go_num, by rw [unhide HS, unhide HV]; go_num⟩
          case measure => simp [intOf]; omega
    · have hkk : k = s.size := by omega
      have HK := hide hkk
      clear hkk
      go_wp2
      go_ret
      exact ⟨ret_int (by rw [← unhide HK]), rfl⟩

theorem one_cut {s : ByteArray} {k : Nat} (h : k < s.size) : s.extract k (k + 1) = strOfNums [bt s k] := by
  rw [← str_bl (s.extract k (k + 1))]
  congr 1
  have hz : (s.extract k (k + 1)).size = 1 := by rw [ByteArray.size_extract]; omega
  have := bt_extract s k 1 0 (by omega) (by omega)
  rw [bl, hz]
  simpa using this

set_option maxRecDepth 100000 in
set_option maxHeartbeats 2000000 in
theorem rStuffed_any (s : ByteArray) (w : World) (hs : s.size ≤ 1000) (hbit : ∀ k, k < s.size → bt s k = 48 ∨ bt s k = 49) :
    Calls Try.prog 36 #[.string s] w fun e w' => e = .returned (.string (strOfNums (stuffL 0 0 (bl s)))) ∧ Below w.heap.size w w' := by
  have HBIT := hide hbit
  clear hbit
  obtain ⟨X, HX⟩ : ∃ X, Hid (X = stuffL 0 0 (bl s)) := ⟨_, hide rfl⟩
  rw [← unhide HX]
  go_enter Try.func36, Try.ntmps36
  go_wp2
  go_loopw [3, 4, 5, 6] (fun v rn la i wr => ∃ (k r : Nat) (l : Int) (A : List Int), k ≤ s.size ∧ i = .int .i64 k ∧ rn = .int .i64 r ∧ la = .int .u8 l ∧ r ≤ 4 ∧ A.length ≤ 2 * k ∧ A ++ stuffL r l ((bl s).drop k) = X ∧ v = .string (strOfNums A) ∧ Below w.heap.size w wr) (fun _ _ _ i _ => s.size - (intOf i).toNat)
  case atStart => exact ⟨0, 0, 120, [], by omega, rfl, rfl, rfl, by omega, by simp, by rw [unhide HX, stuffL_zero 0 120]; rfl, rfl, Below.refl _ _⟩
  case round =>
    obtain ⟨k, r, l, A, hk, rfl, rfl, rfl, hr, hA, hX, rfl, hb⟩ := hrel
    have HB := hide hb
    have HXX := hide hX
    have hz := strOfNums_size A
    clear hb hX
    by_cases hlt : k < s.size
    · have HE := hide (bt_of hlt)
      have HCUT := hide (show s.extract k (k + 1) = strOfNums [(s[k].toNat : Int)] by rw [one_cut hlt, unhide HE])
      have hcb : (s[k].toNat : Int) = 48 ∨ (s[k].toNat : Int) = 49 := by rw [unhide HE]; exact unhide HBIT k hlt
      have hn := runN_le (l := l) (c := (s[k].toNat : Int)) hr
      have HAPP := hide (str_app A [(s[k].toNat : Int)])
      have HAPP2 := hide (str_app (A ++ [(s[k].toNat : Int)]) [oth (s[k].toNat : Int)])
      have hz1 := strOfNums_size [(s[k].toNat : Int)]
      have hz2 := strOfNums_size [oth (s[k].toNat : Int)]
      have hcz : (s.extract k (k + 1)).size = 1 := by rw [unhide HCUT, hz1]; rfl
      simp only [List.length_cons, List.length_nil] at hz1 hz2
      by_cases h5 : runN r l (s[k].toNat : Int) = 5
      · have HN := hide (stuff_five (unhide HXX) hlt (unhide HE).symm h5)
        have hrl : (s[k].toNat : Int) = l ∧ r = 4 := by unfold runN at h5; split at h5 <;> omega
        obtain ⟨hle, hr4⟩ := hrl
        have hconv := fun (wx : World) => conv_one wx (oth (s[k].toNat : Int))
        have hob : (97 : Int) - (s[k].toNat : Int) = oth (s[k].toNat : Int) := by unfold oth; split <;> omega
        have hlb : ((s[k].toNat : Int) == l) = true := by simpa using hle
        have hc0 : 48 ≤ (s[k].toNat : Int) := by omega
        have hc1 : (s[k].toNat : Int) ≤ 49 := by omega
        subst hr4
        clear hle hn h5 hcb
        go_wp2
        go_roundw
        case rel => exact ⟨k + 1, 1, oth (s[k].toNat : Int), A ++ [(s[k].toNat : Int)] ++ [oth (s[k].toNat : Int)], by omega, by go_num, rfl, rfl, by omega, by simp; omega, unhide HN, by rw [unhide HAPP2, unhide HAPP, unhide HCUT], (unhide HB).alloc (unhide HB).size _⟩
        case measure => simp [intOf]; omega
      · have HN := hide (stuff_step (unhide HXX) hlt (unhide HE).symm h5)
        by_cases hle : (s[k].toNat : Int) = l
        · have hlb : ((s[k].toNat : Int) == l) = true := by simpa using hle
          have hq : runN r l (s[k].toNat : Int) = r + 1 := by rw [runN, if_pos hle]
          rw [hq] at HN h5
          have h5b : ((r : Int) + 1 == 5) = false := by simp; omega
          clear hq hn hle hcb
          go_wp2
          go_roundw
          case rel => exact ⟨k + 1, r + 1, _, A ++ [(s[k].toNat : Int)], by omega, by go_num, by go_num, rfl, by omega, by simp; omega, unhide HN, by rw [unhide HAPP, unhide HCUT], unhide HB⟩
          case measure => simp [intOf]; omega
        · have hlb : ((s[k].toNat : Int) == l) = false := by simpa using hle
          have hq : runN r l (s[k].toNat : Int) = 1 := by rw [runN, if_neg hle]
          rw [hq] at HN h5
          clear hq hn hle hcb
          go_wp2
          go_roundw
          case rel => exact ⟨k + 1, 1, _, A ++ [(s[k].toNat : Int)], by omega, by go_num, rfl, rfl, by omega, by simp; omega, unhide HN, by rw [unhide HAPP, unhide HCUT], unhide HB⟩
          case measure => simp [intOf]; omega
    · have hend := stuff_end (unhide HXX) (by omega)
      have HK := hide hend
      clear hend
      go_wp2
      go_ret
      exact ⟨by rw [← unhide HK]; try rfl, unhide HB⟩

end Go.Proofs.Ytoihlnjcgopdlab

namespace Go.Proofs.Ytoihlnjcgopdlab
open Go.RowKit

theorem bare_step {s : ByteArray} {k r : Nat} {l c : Int} {A X : List Int} (h : A ++ bareL r l ((bl s).drop k) = X) (hk : k < s.size) (hc : bt s k = c) (hb : c = 48 ∨ c = 49) (h5 : ¬ r = 5) : (A ++ [c]) ++ bareL (runN r l c) c ((bl s).drop (k + 1)) = X := by
  rw [bl_drop hk, hc, bareL, if_pos hb, if_neg h5] at h
  rw [← h]; simp
theorem bare_five {s : ByteArray} {k r : Nat} {l c : Int} {A X : List Int} (h : A ++ bareL r l ((bl s).drop k) = X) (hk : k < s.size) (hc : bt s k = c) (hb : c = 48 ∨ c = 49) (h5 : r = 5) : A ++ bareL 1 c ((bl s).drop (k + 1)) = X := by
  rw [bl_drop hk, hc, bareL, if_pos hb, if_pos h5] at h
  exact h
theorem bare_stop {s : ByteArray} {k r : Nat} {l c : Int} {A X : List Int} (h : A ++ bareL r l ((bl s).drop k) = X) (hk : k < s.size) (hc : bt s k = c) (hb : ¬ (c = 48 ∨ c = 49)) : A = X := by
  rw [bl_drop hk, hc, bareL, if_neg hb, List.append_nil] at h; exact h
theorem bare_end {s : ByteArray} {k r : Nat} {l : Int} {A X : List Int} (h : A ++ bareL r l ((bl s).drop k) = X) (hk : s.size ≤ k) : A = X := by
  rw [bl_drop_end hk, bareL, List.append_nil] at h; exact h

set_option maxRecDepth 100000 in
set_option maxHeartbeats 2000000 in
theorem bare_any (s : ByteArray) (w : World) (hs : s.size ≤ 1000) :
    Calls Try.prog 39 #[.string s] w fun e w' => e = .returned (.string (strOfNums (bareL 0 0 (bl s)))) ∧ Below w.heap.size w w' := by
  obtain ⟨X, HX⟩ : ∃ X, Hid (X = bareL 0 0 (bl s)) := ⟨_, hide rfl⟩
  rw [← unhide HX]
  go_enter Try.func39, Try.ntmps39
  go_wp2
  go_loopw [3, 4, 5, 6] (fun v rn la i wr => ∃ (k r : Nat) (l : Int) (A : List Int), k ≤ s.size ∧ i = .int .i64 k ∧ rn = .int .i64 r ∧ la = .int .u8 l ∧ r ≤ 5 ∧ A.length ≤ k ∧ A ++ bareL r l ((bl s).drop k) = X ∧ v = .string (strOfNums A) ∧ Below w.heap.size w wr) (fun _ _ _ i _ => s.size - (intOf i).toNat)
  case atStart => exact ⟨0, 0, 120, [], by omega, rfl, rfl, rfl, by omega, by simp, by rw [unhide HX, bareL_zero 0 120]; rfl, rfl, Below.refl _ _⟩
  case round =>
    obtain ⟨k, r, l, A, hk, rfl, rfl, rfl, hr, hA, hX, rfl, hb⟩ := hrel
    have HB := hide hb
    have HXX := hide hX
    have hz := strOfNums_size A
    clear hb hX
    by_cases hlt : k < s.size
    · have HE := hide (bt_of hlt)
      by_cases hcb : (s[k].toNat : Int) = 48 ∨ (s[k].toNat : Int) = 49
      · have HCUT := hide (show s.extract k (k + 1) = strOfNums [(s[k].toNat : Int)] by rw [one_cut hlt, unhide HE])
        have HAPP := hide (str_app A [(s[k].toNat : Int)])
        have hz1 := strOfNums_size [(s[k].toNat : Int)]
        have hcz : (s.extract k (k + 1)).size = 1 := by rw [unhide HCUT, hz1]; rfl
        simp only [List.length_cons, List.length_nil] at hz1
        by_cases h5 : r = 5
        · have HN := hide (bare_five (unhide HXX) hlt (unhide HE).symm hcb h5)
          subst h5
          rcases hcb with hcb | hcb
          · have hc1 : ((s[k].toNat : Int) == 48) = true := by rw [hcb]; rfl
            clear hcb
            go_wp2
            go_roundw
            case rel => exact ⟨k + 1, 1, _, A, by omega, by go_num, rfl, rfl, by omega, by omega, unhide HN, rfl, unhide HB⟩
            case measure => simp [intOf]; omega
          · have hc1 : ((s[k].toNat : Int) == 48) = false := by rw [hcb]; rfl
            have hc2 : ((s[k].toNat : Int) == 49) = true := by rw [hcb]; rfl
            clear hcb
            go_wp2
            go_roundw
            case rel => exact ⟨k + 1, 1, _, A, by omega, by go_num, rfl, rfl, by omega, by omega, unhide HN, rfl, unhide HB⟩
            case measure => simp [intOf]; omega
        · have HN := hide (bare_step (unhide HXX) hlt (unhide HE).symm hcb h5)
          have h5b : ((r : Int) == 5) = false := by simp; omega
          by_cases hle : (s[k].toNat : Int) = l
          · have hlb : ((s[k].toNat : Int) == l) = true := by simpa using hle
            have hq : runN r l (s[k].toNat : Int) = r + 1 := by rw [runN, if_pos hle]
            rw [hq] at HN
            clear hq hle
            rcases hcb with hcb | hcb
            · have hc1 : ((s[k].toNat : Int) == 48) = true := by rw [hcb]; rfl
              clear hcb
              go_wp2
              go_roundw
              case rel => exact ⟨k + 1, r + 1, _, A ++ [(s[k].toNat : Int)], by omega, by go_num, by go_num, rfl, by omega, by simp; omega, unhide HN, by rw [unhide HAPP, unhide HCUT], unhide HB⟩
              case measure => simp [intOf]; omega
            · have hc1 : ((s[k].toNat : Int) == 48) = false := by rw [hcb]; rfl
              have hc2 : ((s[k].toNat : Int) == 49) = true := by rw [hcb]; rfl
              clear hcb
              go_wp2
              go_roundw
              case rel => exact ⟨k + 1, r + 1, _, A ++ [(s[k].toNat : Int)], by omega, by go_num, by go_num, rfl, by omega, by simp; omega, unhide HN, by rw [unhide HAPP, unhide HCUT], unhide HB⟩
              case measure => simp [intOf]; omega
          · have hlb : ((s[k].toNat : Int) == l) = false := by simpa using hle
            have hq : runN r l (s[k].toNat : Int) = 1 := by rw [runN, if_neg hle]
            rw [hq] at HN
            clear hq hle
            rcases hcb with hcb | hcb
            · have hc1 : ((s[k].toNat : Int) == 48) = true := by rw [hcb]; rfl
              clear hcb
              go_wp2
              go_roundw
              case rel => exact ⟨k + 1, 1, _, A ++ [(s[k].toNat : Int)], by omega, by go_num, rfl, rfl, by omega, by simp; omega, unhide HN, by rw [unhide HAPP, unhide HCUT], unhide HB⟩
              case measure => simp [intOf]; omega
            · have hc1 : ((s[k].toNat : Int) == 48) = false := by rw [hcb]; rfl
              have hc2 : ((s[k].toNat : Int) == 49) = true := by rw [hcb]; rfl
              clear hcb
              go_wp2
              go_roundw
              case rel => exact ⟨k + 1, 1, _, A ++ [(s[k].toNat : Int)], by omega, by go_num, rfl, rfl, by omega, by simp; omega, unhide HN, by rw [unhide HAPP, unhide HCUT], unhide HB⟩
              case measure => simp [intOf]; omega
      · have hend := bare_stop (unhide HXX) hlt (unhide HE).symm hcb
        have hc1 : ((s[k].toNat : Int) == 48) = false := by simp; omega
        have hc2 : ((s[k].toNat : Int) == 49) = false := by simp; omega
        have HK := hide hend
        clear hend hcb
        go_wp2
        go_ret
        exact ⟨by rw [← unhide HK]; try rfl, unhide HB⟩
    · have hend := bare_end (unhide HXX) (by omega)
      have HK := hide hend
      clear hend
      go_wp2
      go_ret
      exact ⟨by rw [← unhide HK]; try rfl, unhide HB⟩

set_option maxRecDepth 100000 in
set_option maxHeartbeats 1000000 in
theorem valued_any (s : ByteArray) (i n : Nat) (w : World) (hs : s.size ≤ 1000) (hi : i ≤ 1000) (hn : n ≤ 16) :
    Calls Try.prog 40 #[.string s, .int .i64 i, .int .i64 n] w fun e w' => e = .returned (.int .i64 (valT (fun k => bt s (i + k)) n)) ∧ w' = w := by
  obtain ⟨f, HF⟩ : ∃ f, Hid (f = fun k => bt s (i + k)) := ⟨_, hide rfl⟩
  rw [← unhide HF]
  go_enter Try.func40, Try.ntmps40
  go_wp2
  go_loop [7, 8] (fun v r => ∃ k : Nat, k ≤ n ∧ r = .int .i64 ((i : Int) + (k : Int)) ∧ v = .int .i64 (valT f k)) (fun _ r => n + i - (intOf r).toNat)
  case atStart => exact ⟨0, by omega, by go_num, rfl⟩
  case round =>
    obtain ⟨k, hk, rfl, rfl⟩ := hrel
    have hlt2 := valT_lt f k
    have hpw : 2 ^ k ≤ 2 ^ 16 := Nat.pow_le_pow_right (by omega) (by omega)
    have hv : valT f k < 65536 := by omega
    clear hlt2 hpw
    by_cases hlt : k < n
    · have HFK := hide (show f k = bt s (i + k) by rw [unhide HF])
      by_cases h1 : bt s (i + k) = 49
      · have HS := hide (show valT f (k + 1) = 2 * valT f k + 1 by rw [valT, unhide HFK, if_pos h1])
        have hin : i + k < s.size := by
          by_cases hin : i + k < s.size
          · exact hin
          · rw [bt, dif_neg hin] at h1; omega
        have hb : ((s[i + k].toNat : Int) == 49) = true := by rw [bt_of hin, h1]; rfl
        clear h1
        go_wp2
        go_round
        case rel => exact ⟨k + 1, by omega, by go_num, by rw [unhide HS]; go_num⟩
        case measure => simp [intOf]; omega
      · have HS := hide (show valT f (k + 1) = 2 * valT f k by rw [valT, unhide HFK, if_neg h1]; rfl)
        by_cases hin : i + k < s.size
        · have hb : ((s[i + k].toNat : Int) == 49) = false := by rw [bt_of hin]; simpa using h1
          clear h1
          go_wp2
          go_round
          case rel => exact ⟨k + 1, by omega, by go_num, by rw [unhide HS]; go_num⟩
          case measure => simp [intOf]; omega
        · clear h1
          go_wp2
          go_round
          case rel => exact ⟨k + 1, by omega, by go_num, by rw [unhide HS]; go_num⟩
          case measure => simp [intOf]; omega
    · have hkk : k = n := by omega
      have HK := hide hkk
      clear hkk
      go_wp2
      go_ret
      exact ⟨ret_int (by rw [← unhide HK]), rfl⟩

end Go.Proofs.Ytoihlnjcgopdlab

namespace Go.Proofs.Ytoihlnjcgopdlab
open Go.RowKit

theorem str_bits {l : List Int} (h : ∀ c ∈ l, c = 48 ∨ c = 49) : ∀ k, k < (strOfNums l).size → bt (strOfNums l) k = 48 ∨ bt (strOfNums l) k = 49 := by
  intro k hk
  rw [strOfNums_size] at hk
  rw [bt_str (bits_byts h), List.getD_eq_getElem?_getD, List.getElem?_eq_getElem hk]
  exact h _ (List.getElem_mem hk)

set_option maxRecDepth 100000 in
set_option maxHeartbeats 4000000 in
theorem rFrame_any (id p : ByteArray) (w : World) (hid : id.size ≤ maxLen) :
    Calls Try.prog 12 #[.string id, .string p] w fun e w' => e = .returned (.tuple #[.string (frmOut id p).1, .int .i64 (frmOut id p).2]) ∧ Below w.heap.size w w' := by
  by_cases h8 : 8 < p.size
  · have HF := hide (show frmOut id p = (noBytes, 1) by rw [frmOut, if_pos h8])
    go_enter Try.func12, Try.ntmps12
    go_wp2
    go_ret2
    exact ⟨by rw [unhide HF]; rfl, Below.refl _ _⟩
  have hlt := idNum_lt id
  have hok := idOk_num id
  by_cases hn : idNum id < 0
  · have HF := hide (show frmOut id p = (noBytes, 7) by rw [frmOut, if_neg h8, if_pos hn])
    have hokf : idOkB id = false := by rw [hok]; simp; omega
    clear hok
    go_enter Try.func12, Try.ntmps12
    go_wp2_with fail
    refine (rIsId_any id _ hid).mono ?_
    rintro e w1 ⟨rfl, rfl⟩
    rw [hokf]
    go_wp2
    go_ret2
    exact ⟨by rw [unhide HF]; rfl, Below.refl _ _⟩
  · obtain ⟨x, hx⟩ : ∃ x : Nat, idNum id = x := ⟨(idNum id).toNat, by omega⟩
    have HF := hide (show frmOut id p = (strOfNums (frmL x (bl p)), 0) by rw [frmOut, if_neg h8, if_neg hn, hx, Int.toNat_natCast])
    have hokt : idOkB id = true := by rw [hok]; simp; omega
    have hx2048 : x < 2048 := by omega
    obtain ⟨h3, hbad⟩ : id.size = 3 ∧ idBad id = false := by simpa [idOkB] using hokt
    have hh := idBad_no hbad
    have l0 : 0 < id.size := by omega
    have l1 : 1 < id.size := by omega
    have l2 : 2 < id.size := by omega
    have l0i : (0 : Int) < (id.size : Int) := by omega
    have l1i : (1 : Int) < (id.size : Int) := by omega
    have l2i : (2 : Int) < (id.size : Int) := by omega
    have hq0 := hh 0 (by omega)
    have hq1 : isHexB (bt id 1) = true := hh 1 (by omega)
    have hq2 : isHexB (bt id 2) = true := hh 2 (by omega)
    have hq0' : isHexB (bt id 0) = true := by simp [headB] at hq0; simp [isHexB, isDigB]; omega
    obtain ⟨_q0, v0, z0⟩ := hexd_worth hq0'
    obtain ⟨_q1, v1, z1⟩ := hexd_worth hq1
    obtain ⟨_q2, v2, z2⟩ := hexd_worth hq2
    rw [idNum, if_pos h3, hbad, if_neg (by simp), idTo_three] at hx
    rw [← bt_of l0] at hq0' v0 z0 hx
    rw [← bt_of l1] at hq1 v1 z1 hx
    rw [← bt_of l2] at hq2 v2 z2 hx
    obtain ⟨a0, ha0⟩ : ∃ a : Nat, worth (id[0].toNat : Int) = a := ⟨_, (Int.toNat_of_nonneg z0).symm⟩
    obtain ⟨a1, ha1⟩ : ∃ a : Nat, worth (id[1].toNat : Int) = a := ⟨_, (Int.toNat_of_nonneg z1).symm⟩
    obtain ⟨a2, ha2⟩ : ∃ a : Nat, worth (id[2].toNat : Int) = a := ⟨_, (Int.toNat_of_nonneg z2).symm⟩
    rw [ha0] at v0 hx
    rw [ha1] at v1 hx
    rw [ha2] at v2 hx
    have wr0 : IntKind.i64.wrap ((a0 : Int) * 256) = (a0 : Int) * 256 := by rw [IntKind.wrap_i64]; omega
    have wr1 : IntKind.i64.wrap ((a1 : Int) * 16) = (a1 : Int) * 16 := by rw [IntKind.wrap_i64]; omega
    have wr2 : IntKind.i64.wrap ((a0 : Int) * 256 + (a1 : Int) * 16) = (a0 : Int) * 256 + (a1 : Int) * 16 := by rw [IntKind.wrap_i64]; omega
    have wr3 : IntKind.i64.wrap ((a0 : Int) * 256 + (a1 : Int) * 16 + (a2 : Int)) = (x : Int) := by rw [IntKind.wrap_i64]; omega
    have hxx : IntKind.i64.wrap (IntKind.i64.wrap (IntKind.i64.wrap ((a0 : Int) * 256) + IntKind.i64.wrap ((a1 : Int) * 16)) + (a2 : Int)) = (x : Int) := by rw [wr0, wr1, wr2, wr3]
    clear wr0 wr1 wr2 wr3
    have hx0 := hq0'
    have hx1 := hq1
    have hx2 := hq2
    have hv0 : a0 < 16 := by omega
    have hv1 : a1 < 16 := by omega
    have hv2 : a2 < 16 := by omega
    have hsz1 := strOfNums_size (numP x 11 11)
    have hsz2 := strOfNums_size (numP p.size 4 4)
    rw [numP_len] at hsz1 hsz2
    have HH := hide (show (⟨#[48]⟩ : ByteArray) ++ strOfNums (numP x 11 11) ++ ⟨#[48, 48, 48]⟩ ++ strOfNums (numP p.size 4 4) = strOfNums (headL x p.size ++ payL ((bl p).take 0)) by
      rw [headL, List.take_zero, payL, List.flatMap_nil, List.append_nil, str_app, str_app, str_app]; rfl)
    clear _q0 _q1 _q2 hok hq0 hq0' hq1 hq2 v0 v1 v2 z0 z1 z2 hn hx hlt hh hbad h3
    go_enter Try.func12, Try.ntmps12
    go_wp2_with fail
    refine (rIsId_any id _ hid).mono ?_
    rintro e w1 ⟨rfl, rfl⟩
    rw [hokt]
    go_wp2_with fail
    go_cut [7] from 18 (fun v wx => v = .string (⟨#[48]⟩ ++ strOfNums (numP x 11 11) ++ ⟨#[48, 48, 48]⟩ ++ strOfNums (numP p.size 4 4)) ∧ Below w1.heap.size w1 wx)
    case first =>
      refine wp_region_noPanic ?_
      refine wp_region_held_drew (S := fun w' => Below w1.heap.size w1 w') (by kernel_rfl) (Below.refl _ _).drew (fun hHeld => ?_)
      refine wpAnyH_take (i := 0) (v := ?_) (at_list rfl) (by kernel_rfl) (by kernel_rfl) (by kernel_rfl) (fun _ _ _ h => h) (Or.inl ⟨by rfl, ?_⟩) (by assumption) ?_
      rotate_left
      · intro w hSw; (try dsimp only at hSw); first | (go_simp; done) | (go_simp; with_reducible rfl)
      try simp only [Act.put]
      try simp only [List.setIfInBounds_toArray]
      try simp only [List.set_cons_succ]
      try simp only [List.set_cons_zero]
      refine wpAnyH_take (i := 1) (v := ?_) (at_list rfl) (by kernel_rfl) (by kernel_rfl) (by kernel_rfl) (fun _ _ _ h => h) (Or.inl ⟨by rfl, ?_⟩) (by assumption) ?_
      rotate_left
      · intro w hSw; (try dsimp only at hSw); first | (go_simp; done) | (go_simp; with_reducible rfl)
      try simp only [Act.put]
      try simp only [List.setIfInBounds_toArray]
      try simp only [List.set_cons_succ]
      try simp only [List.set_cons_zero]
      refine wpAnyH_take (i := 4) (v := ?_) (at_list rfl) (by kernel_rfl) (by kernel_rfl) (by kernel_rfl) (fun _ _ _ h => h) (Or.inl ⟨by rfl, ?_⟩) (by assumption) ?_
      rotate_left
      · intro w hSw; (try dsimp only at hSw); first | (go_simp; done) | (go_simp; with_reducible rfl)
      try simp only [Act.put]
      try simp only [List.setIfInBounds_toArray]
      try simp only [List.set_cons_succ]
      try simp only [List.set_cons_zero]
      refine wpAnyH_take (i := 5) (v := ?_) (at_list rfl) (by kernel_rfl) (by kernel_rfl) (by kernel_rfl) (fun _ _ _ h => h) (Or.inl ⟨by rfl, ?_⟩) (by assumption) ?_
      rotate_left
      · intro w hSw; (try dsimp only at hSw); first | (go_simp; done) | (go_simp; with_reducible rfl)
      try simp only [Act.put]
      try simp only [List.setIfInBounds_toArray]
      try simp only [List.set_cons_succ]
      try simp only [List.set_cons_zero]
      refine wpAnyH_take (i := 9) (v := ?_) (at_list rfl) (by kernel_rfl) (by kernel_rfl) (by kernel_rfl) (fun _ _ _ h => h) (Or.inl ⟨by rfl, ?_⟩) (by assumption) ?_
      rotate_left
      · intro w hSw; (try dsimp only at hSw); first | (go_simp; done) | (go_simp; with_reducible rfl)
      try simp only [Act.put]
      try simp only [List.setIfInBounds_toArray]
      try simp only [List.set_cons_succ]
      try simp only [List.set_cons_zero]
      refine wpAnyH_take (i := 10) (v := ?_) (at_list rfl) (by kernel_rfl) (by kernel_rfl) (by kernel_rfl) (fun _ _ _ h => h) (Or.inl ⟨by rfl, ?_⟩) (by assumption) ?_
      rotate_left
      · intro w hSw; (try dsimp only at hSw); first | (go_simp; done) | (go_simp; with_reducible rfl)
      try simp only [Act.put]
      try simp only [List.setIfInBounds_toArray]
      try simp only [List.set_cons_succ]
      try simp only [List.set_cons_zero]
      refine wpAnyH_take (i := 16) (v := ?_) (at_list rfl) (by kernel_rfl) (by kernel_rfl) (by kernel_rfl) (fun _ _ _ h => h) (Or.inl ⟨by rfl, ?_⟩) (by assumption) ?_
      rotate_left
      · intro w hSw; (try dsimp only at hSw); first | (go_simp; done) | (go_simp; with_reducible rfl)
      try simp only [Act.put]
      try simp only [List.setIfInBounds_toArray]
      try simp only [List.set_cons_succ]
      try simp only [List.set_cons_zero]
      refine wpAnyH_take (i := 17) (v := ?_) (at_list rfl) (by kernel_rfl) (by kernel_rfl) (by kernel_rfl) (fun _ _ _ h => h) (Or.inl ⟨by rfl, ?_⟩) (by assumption) ?_
      rotate_left
      · intro w hSw; (try dsimp only at hSw); first | (go_simp; done) | (go_simp; with_reducible rfl)
      try simp only [Act.put]
      try simp only [List.setIfInBounds_toArray]
      try simp only [List.set_cons_succ]
      try simp only [List.set_cons_zero]
      refine wpAnyH_ready (rs := [2]) (by kernel_rfl) (by simp) ?_
      refine AllReadyH.cons (at_list rfl) (fun K hK => ?_) AllReadyH.nil
      go_simp
      refine (hex_any _ _ hx0).mono ?_; rintro e wq ⟨rfl, rfl⟩
      refine hK.out _ _ (hHeld) (fun hHeld => ?_)
      clear hK K
      try simp only [Act.put]
      try simp only [List.setIfInBounds_toArray]
      try simp only [List.set_cons_succ]
      try simp only [List.set_cons_zero]
      refine wpAnyH_take (i := 3) (v := ?_) (at_list rfl) (by kernel_rfl) (by kernel_rfl) (by kernel_rfl) (fun _ _ _ h => h) (Or.inl ⟨by rfl, ?_⟩) (by assumption) ?_
      rotate_left
      · intro w hSw; (try dsimp only at hSw); first | (go_simp; done) | (go_simp; with_reducible rfl)
      try simp only [Act.put]
      try simp only [List.setIfInBounds_toArray]
      try simp only [List.set_cons_succ]
      try simp only [List.set_cons_zero]
      refine wpAnyH_ready (rs := [6]) (by kernel_rfl) (by simp) ?_
      refine AllReadyH.cons (at_list rfl) (fun K hK => ?_) AllReadyH.nil
      go_simp
      refine (hex_any _ _ hx1).mono ?_; rintro e wq ⟨rfl, rfl⟩
      refine hK.out _ _ (hHeld) (fun hHeld => ?_)
      clear hK K
      try simp only [Act.put]
      try simp only [List.setIfInBounds_toArray]
      try simp only [List.set_cons_succ]
      try simp only [List.set_cons_zero]
      refine wpAnyH_take (i := 7) (v := ?_) (at_list rfl) (by kernel_rfl) (by kernel_rfl) (by kernel_rfl) (fun _ _ _ h => h) (Or.inl ⟨by rfl, ?_⟩) (by assumption) ?_
      rotate_left
      · intro w hSw; (try dsimp only at hSw); first | (go_simp; done) | (go_simp; with_reducible rfl)
      try simp only [Act.put]
      try simp only [List.setIfInBounds_toArray]
      try simp only [List.set_cons_succ]
      try simp only [List.set_cons_zero]
      refine wpAnyH_take (i := 8) (v := ?_) (at_list rfl) (by kernel_rfl) (by kernel_rfl) (by kernel_rfl) (fun _ _ _ h => h) (Or.inl ⟨by rfl, ?_⟩) (by assumption) ?_
      rotate_left
      · intro w hSw; (try dsimp only at hSw); first | (go_simp; done) | (go_simp; with_reducible rfl)
      try simp only [Act.put]
      try simp only [List.setIfInBounds_toArray]
      try simp only [List.set_cons_succ]
      try simp only [List.set_cons_zero]
      refine wpAnyH_ready (rs := [11]) (by kernel_rfl) (by simp) ?_
      refine AllReadyH.cons (at_list rfl) (fun K hK => ?_) AllReadyH.nil
      go_simp
      refine (hex_any _ _ hx2).mono ?_; rintro e wq ⟨rfl, rfl⟩
      refine hK.out _ _ (hHeld) (fun hHeld => ?_)
      clear hK K
      try simp only [Act.put]
      try simp only [List.setIfInBounds_toArray]
      try simp only [List.set_cons_succ]
      try simp only [List.set_cons_zero]
      refine wpAnyH_take (i := 12) (v := ?_) (at_list rfl) (by kernel_rfl) (by kernel_rfl) (by kernel_rfl) (fun _ _ _ h => h) (Or.inl ⟨by rfl, ?_⟩) (by assumption) ?_
      rotate_left
      · intro w hSw; (try dsimp only at hSw); first | (go_simp; done) | (go_simp; with_reducible rfl)
      try simp only [Act.put]
      try simp only [List.setIfInBounds_toArray]
      try simp only [List.set_cons_succ]
      try simp only [List.set_cons_zero]
      refine wpAnyH_ready (rs := [13]) (by kernel_rfl) (by simp) ?_
      refine AllReadyH.cons (at_list rfl) (fun K hK => ?_) AllReadyH.nil
      go_simp
      refine (number_any x 11 _ (by omega) (by omega)).mono ?_; rintro e wq ⟨rfl, hbq'⟩; have hbq := hbq'.mono hHeld.size
      refine hK.out _ _ (hHeld.trans hbq) (fun hHeld => ?_)
      clear hK K
      try simp only [Act.put]
      try simp only [List.setIfInBounds_toArray]
      try simp only [List.set_cons_succ]
      try simp only [List.set_cons_zero]
      refine wpAnyH_take (i := 14) (v := ?_) (at_list rfl) (by kernel_rfl) (by kernel_rfl) (by kernel_rfl) (fun _ _ _ h => h) (Or.inl ⟨by rfl, ?_⟩) (by assumption) ?_
      rotate_left
      · intro w hSw; (try dsimp only at hSw); first | (go_simp; done) | (go_simp; with_reducible rfl)
      try simp only [Act.put]
      try simp only [List.setIfInBounds_toArray]
      try simp only [List.set_cons_succ]
      try simp only [List.set_cons_zero]
      refine wpAnyH_take (i := 15) (v := ?_) (at_list rfl) (by kernel_rfl) (by kernel_rfl) (by kernel_rfl) (fun _ _ _ h => h) (Or.inl ⟨by rfl, ?_⟩) (by assumption) ?_
      rotate_left
      · intro w hSw; (try dsimp only at hSw); first | (go_simp; done) | (go_simp; with_reducible rfl)
      try simp only [Act.put]
      try simp only [List.setIfInBounds_toArray]
      try simp only [List.set_cons_succ]
      try simp only [List.set_cons_zero]
      refine wpAnyH_ready (rs := [18]) (by kernel_rfl) (by simp) ?_
      refine AllReadyH.cons (at_list rfl) (fun K hK => ?_) AllReadyH.nil
      go_simp
      refine (number_any p.size 4 _ (by omega) (by omega)).mono ?_; rintro e wq2 ⟨rfl, hbq'⟩; have hbq := hbq'.mono hHeld.size
      refine hK.out _ _ (hHeld.trans hbq) (fun hHeld => ?_)
      clear hK K
      try simp only [Act.put]
      try simp only [List.setIfInBounds_toArray]
      try simp only [List.set_cons_succ]
      try simp only [List.set_cons_zero]
      refine wpAnyH_take (i := 19) (v := ?_) (at_list rfl) (by kernel_rfl) (by kernel_rfl) (by kernel_rfl) (fun _ _ _ h => h) (Or.inl ⟨by rfl, ?_⟩) (by assumption) ?_
      rotate_left
      · intro w hSw; (try dsimp only at hSw); first | (go_simp; done) | (go_simp; with_reducible rfl)
      try simp only [Act.put]
      try simp only [List.setIfInBounds_toArray]
      try simp only [List.set_cons_succ]
      try simp only [List.set_cons_zero]
      refine wpAnyH_take (i := 20) (v := ?_) (at_list rfl) (by kernel_rfl) (by kernel_rfl) (by kernel_rfl) (fun _ _ _ h => h) (Or.inl ⟨by rfl, ?_⟩) (by assumption) ?_
      rotate_left
      · intro w hSw; (try dsimp only at hSw); first | (go_simp; done) | (go_simp; with_reducible rfl)
      try simp only [Act.put]
      try simp only [List.setIfInBounds_toArray]
      try simp only [List.set_cons_succ]
      try simp only [List.set_cons_zero]
      refine wpAnyH_done (by kernel_rfl) ?_ _
      refine NoPanic.normal ?_
      go_wp2_with fail
      go_meet
      case rel => exact ⟨rfl, hHeld⟩
    case rest =>
      obtain ⟨rfl, hbc⟩ := hcut
      have HB2 := hide hbc
      clear hbc
      have hpl := plainL_len x (bl p)
      have hby := bits_byts (plainL_bits x (bl p))
      have hby2 := bits_byts (wholeL_bits x (bl p))
      have HS := hide (sumL_str hby)
      have hsl := sumF_lt (bt (strOfNums (plainL x (bl p)))) (strOfNums (plainL x (bl p))).size
      have hz0 : (strOfNums (plainL x (bl p))).size ≤ 100 := by rw [strOfNums_size, hpl, bl_len]; omega
      rw [unhide HS] at hsl
      have HW := hide (show strOfNums (plainL x (bl p)) ++ strOfNums (numP (sumL (plainL x (bl p))) 15 15) = strOfNums (wholeL x (bl p)) by rw [wholeL, str_app])
      have hzw : (strOfNums (wholeL x (bl p))).size ≤ 100 := by rw [strOfNums_size, wholeL_len, bl_len]; omega
      have hz1 := strOfNums_size (numP (sumL (plainL x (bl p))) 15 15)
      rw [numP_len] at hz1
      have HBW := hide (bl_str hby2)
      have HBT1 := hide (show ∀ k, k < (strOfNums (plainL x (bl p))).size → bt (strOfNums (plainL x (bl p))) k = 48 ∨ bt (strOfNums (plainL x (bl p))) k = 49 from str_bits (plainL_bits x (bl p)))
      have HBT2 := hide (show ∀ k, k < (strOfNums (wholeL x (bl p))).size → bt (strOfNums (wholeL x (bl p))) k = 48 ∨ bt (strOfNums (wholeL x (bl p))) k = 49 from str_bits (wholeL_bits x (bl p)))
      have hzs : (strOfNums (stuffL 0 0 (wholeL x (bl p)))).size ≤ 200 := by
        rw [strOfNums_size]
        have := stuff_up (wholeL x (bl p)) 0 0
        rw [wholeL_len, bl_len] at this; omega
      have HFF := hide (show strOfNums (stuffL 0 0 (wholeL x (bl p))) ++ ⟨#[49, 49, 49, 49, 49, 49, 49, 49, 49, 49]⟩ = strOfNums (frmL x (bl p)) by rw [frmL, str_app]; rfl)
      have HPL := hide (show plainL x (bl p) = headL x p.size ++ payL ((bl p).take p.size) by rw [plainL, bl_len, bl_take_all])
      clear hpl hby hby2 hx0 hx1 hx2 ha0 ha1 ha2 hxx
      go_wp2
      go_loopw [7, 8] (fun v i wr => ∃ k : Nat, k ≤ p.size ∧ i = .int .i64 k ∧ v = .string (strOfNums (headL x p.size ++ payL ((bl p).take k))) ∧ Below w1.heap.size w1 wr) (fun _ i _ => p.size - (intOf i).toNat)
      case atStart => exact ⟨0, by omega, rfl, by rw [← unhide HH], unhide HB2⟩
      case round =>
        obtain ⟨k, hk, rfl, rfl, hb⟩ := hrel
        have HB := hide hb
        clear hb
        have hsz : (strOfNums (headL x p.size ++ payL ((bl p).take k))).size ≤ 200 := by
          rw [strOfNums_size, List.length_append, headL_len, payL_len, List.length_take, bl_len]; omega
        by_cases hlt : k < p.size
        · have HE := hide (bt_of hlt)
          have hc1 : p[k].toNat ≤ 255 := by have := p[k].toNat_lt; omega
          have HN := hide (show strOfNums (headL x p.size ++ payL ((bl p).take (k + 1))) = strOfNums (headL x p.size ++ payL ((bl p).take k)) ++ strOfNums (numP p[k].toNat 8 8) by
            rw [bl_take hlt, payL_push, ← List.append_assoc, str_app, ← unhide HE, Int.toNat_natCast])
          have hz3 := strOfNums_size (numP p[k].toNat 8 8)
          rw [numP_len] at hz3
          go_wp2_with fail
          refine (number_any p[k].toNat 8 _ (by omega) (by omega)).mono ?_
          rintro e w3 ⟨rfl, hb3⟩
          have HB3 := hide ((unhide HB).trans (hb3.mono (unhide HB).size))
          clear hb3
          go_wp2
          go_roundw
          case rel => exact ⟨k + 1, by omega, by go_num, by rw [unhide HN], unhide HB3⟩
          case measure => simp [intOf]; omega
        · have hkk : k = p.size := by omega
          have HP2 := hide (show strOfNums (headL x p.size ++ payL ((bl p).take k)) = strOfNums (plainL x (bl p)) by rw [unhide HPL, hkk])
          clear hkk
          rw [unhide HP2]
          clear hsz
          go_wp2_with fail
          refine (rSum_any _ _ (by omega) (unhide HBT1)).mono ?_
          rintro e w4 ⟨rfl, rfl⟩
          rw [unhide HS]
          go_wp2_with fail
          refine (number_any _ 15 _ (by omega) (by omega)).mono ?_
          rintro e w5 ⟨rfl, hb5⟩
          have HB5 := hide ((unhide HB).trans (hb5.mono (unhide HB).size))
          clear hb5
          go_wp2_with fail
          rw [unhide HW]
          refine (rStuffed_any _ _ (by omega) (unhide HBT2)).mono ?_
          rintro e w6 ⟨rfl, hb6⟩
          rw [unhide HBW]
          have HB6 := hide ((unhide HB5).trans (hb6.mono (unhide HB5).size))
          clear hb6
          go_wp2
          go_ret2
          exact ⟨by rw [unhide HF, ← unhide HFF]; rfl, unhide HB6⟩

end Go.Proofs.Ytoihlnjcgopdlab

namespace Go.Proofs.Ytoihlnjcgopdlab
open Go.RowKit

theorem bare_mem : ∀ (xs : List Int) (run : Nat) (last : Int), ∀ c ∈ bareL run last xs, c ∈ xs := by
  intro xs
  induction xs with
  | nil => intro run last c hc; simp [bareL] at hc
  | cons x t ih =>
    intro run last c hc
    rw [bareL] at hc
    split at hc
    · split at hc
      · exact List.mem_cons_of_mem _ (ih _ _ c hc)
      · rcases List.mem_cons.1 hc with rfl | hc
        · exact List.mem_cons_self
        · exact List.mem_cons_of_mem _ (ih _ _ c hc)
    · cases hc
theorem bare_byts (s : ByteArray) : Byts (bareL 0 0 (bl s)) := fun c hc => bl_byts s c (bare_mem _ _ _ c hc)
theorem val_str {B : List Int} (hB : Byts B) (i n : Nat) : valT (fun k => bt (strOfNums B) (i + k)) n = valT (fun k => B.getD (i + k) 0) n :=
  valT_ext (fun k _ => bt_str hB (i + k))
theorem frm_eta {x : ByteArray × Int} {a : ByteArray} {b : Int} (h : x = (a, b)) : x.1 = a ∧ x.2 = b := by rw [h]; exact ⟨rfl, rfl⟩
def hexS : ByteArray := ⟨#[48, 49, 50, 51, 52, 53, 54, 55, 56, 57, 65, 66, 67, 68, 69, 70]⟩
theorem hexS_cut : ∀ q : Fin 16, hexS.extract q.val (q.val + 1) = strOfNums [hexd q.val] := by decide
theorem hexS_at {q : Nat} (h : q < 16) : (⟨#[48, 49, 50, 51, 52, 53, 54, 55, 56, 57, 65, 66, 67, 68, 69, 70]⟩ : ByteArray).extract q (q + 1) = strOfNums [hexd q] := hexS_cut ⟨q, h⟩

set_option maxRecDepth 100000 in
set_option maxHeartbeats 4000000 in
theorem rDeframe_any (s : ByteArray) (w : World) (_hs : s.size ≤ maxLen) :
    Calls Try.prog 15 #[.string s] w fun e w' => e = .returned (.tuple #[.string (dfOut s).1, .string (dfOut s).2.1, .int .i64 (dfOut s).2.2]) ∧ Below w.heap.size w w' := by
  by_cases hl : 160 < s.size
  · have HD := hide (dfOut_long hl)
    go_enter Try.func15, Try.ntmps15
    go_wp2
    go_ret3
    exact ⟨by rw [unhide HD]; rfl, Below.refl _ _⟩
  obtain ⟨B, hB⟩ : ∃ B, B = bareL 0 0 (bl s) := ⟨_, rfl⟩
  have hBb : Byts B := by rw [hB]; exact bare_byts s
  have hBl : B.length ≤ 160 := by
    rw [hB]
    have := bare_up (bl s) 0 0
    rw [bl_len] at this; omega
  have hbz := strOfNums_size B
  have HBB := hide hBb
  have HBE := hide hB
  obtain ⟨x, hx⟩ : ∃ x, x = xOf B := ⟨_, rfl⟩
  have hx2 : x < 2048 := by rw [hx]; exact xOf_lt B
  obtain ⟨n, hn⟩ : ∃ n, n = nOf B := ⟨_, rfl⟩
  have hn16 : n < 16 := by rw [hn]; exact nOf_lt B
  have HX := hide (show valT (fun k => bt (strOfNums B) (1 + k)) 11 = x by rw [val_str hBb, hx, xOf])
  have HN := hide (show valT (fun k => bt (strOfNums B) (15 + k)) 4 = n by rw [val_str hBb, hn, nOf])
  have HD := hide (show dfL (bl s) = if n ≤ 8 ∧ frmL x (pOf B n) = bl s then some (x, pOf B n) else none by rw [dfL, ← hB, hx, hn])
  clear hB hBb hx hn
  go_enter Try.func15, Try.ntmps15
  go_wp2_with fail
  refine (bare_any s _ (by omega)).mono ?_
  rintro e w1 ⟨rfl, hb1⟩
  have HB1 := hide hb1
  clear hb1
  rw [← unhide HBE]
  go_wp2_with fail
  refine (valued_any (strOfNums B) 1 11 _ (by omega) (by omega) (by omega)).mono ?_
  rintro e w2 ⟨rfl, rfl⟩
  rw [unhide HX]
  obtain ⟨q0, h0⟩ : ∃ q, q = x / 256 := ⟨_, rfl⟩
  obtain ⟨q1, h1⟩ : ∃ q, q = x / 16 % 16 := ⟨_, rfl⟩
  obtain ⟨q2, h2⟩ : ∃ q, q = x % 16 := ⟨_, rfl⟩
  have hq0 : q0 < 8 := by omega
  have hq1 : q1 < 16 := by omega
  have hq2 : q2 < 16 := by omega
  obtain ⟨r1, hr1⟩ : ∃ r, r = x / 16 := ⟨_, rfl⟩
  have g0 : IntKind.i64.wrap ((x : Int) / 256) = (q0 : Int) := by rw [IntKind.wrap_i64]; omega
  have g1 : IntKind.i64.wrap ((x : Int) / 16) = (r1 : Int) := by rw [IntKind.wrap_i64]; omega
  have g2 : (r1 : Int).tmod 16 = (q1 : Int) := by rw [Int.tmod_eq_emod_of_nonneg (by omega)]; omega
  have g3 : (x : Int).tmod 16 = (q2 : Int) := by rw [Int.tmod_eq_emod_of_nonneg (by omega)]; omega
  have g4 : IntKind.i64.wrap ((q0 : Int) + 1) = (q0 : Int) + 1 := by rw [IntKind.wrap_i64]; omega
  have g5 : IntKind.i64.wrap ((q1 : Int) + 1) = (q1 : Int) + 1 := by rw [IntKind.wrap_i64]; omega
  have g6 : IntKind.i64.wrap ((q2 : Int) + 1) = (q2 : Int) + 1 := by rw [IntKind.wrap_i64]; omega
  have t0 : ((q0 : Int) + 1).toNat = q0 + 1 := by omega
  have t1 : ((q1 : Int) + 1).toNat = q1 + 1 := by omega
  have t2 : ((q2 : Int) + 1).toNat = q2 + 1 := by omega
  have b0 : 0 ≤ (q0 : Int) + 1 ∧ (q0 : Int) + 1 ≤ 16 := by omega
  have b1 : 0 ≤ (q1 : Int) + 1 ∧ (q1 : Int) + 1 ≤ 16 := by omega
  have b2 : 0 ≤ (q2 : Int) + 1 ∧ (q2 : Int) + 1 ≤ 16 := by omega
  have c0 : 0 ≤ (q0 : Int) ∧ (q0 : Int) ≤ (q0 : Int) + 1 := by omega
  have c1 : 0 ≤ (q1 : Int) ∧ (q1 : Int) ≤ (q1 : Int) + 1 := by omega
  have c2 : 0 ≤ (q2 : Int) ∧ (q2 : Int) ≤ (q2 : Int) + 1 := by omega
  have HQ := hide (show strOfNums (hexP x 3) = strOfNums [hexd q0] ++ strOfNums [hexd q1] ++ strOfNums [hexd q2] by rw [hexP_three x hx2, h0, h1, h2, ← str_app, ← str_app]; rfl)
  have e0 := hexS_at (show q0 < 16 by omega)
  have e1 := hexS_at hq1
  have e2 := hexS_at hq2
  have z0 := strOfNums_size [hexd q0]
  have z1 := strOfNums_size [hexd q1]
  have z2 := strOfNums_size [hexd q2]
  simp only [List.length_cons, List.length_nil] at z0 z1 z2
  clear h0 h1 h2 hr1
  go_wp2_with fail
  go_cut [8] from 21 (fun v wx => v = .string (strOfNums [hexd q0] ++ strOfNums [hexd q1] ++ strOfNums [hexd q2]) ∧ Below w2.heap.size w2 wx)
  case first =>
    refine wp_region_noPanic ?_
    refine wp_region_held_drew (S := fun w' => Below w2.heap.size w2 w') (by kernel_rfl) (Below.refl _ _).drew (fun hHeld => ?_)
    refine wpAnyH_take (i := 0) (v := ?_) (at_list rfl) (by kernel_rfl) (by kernel_rfl) (by kernel_rfl) (fun _ _ _ h => h) (Or.inl ⟨by rfl, ?_⟩) (by assumption) ?_
    rotate_left
    · intro w hSw; (try dsimp only at hSw); first | (go_simp; done) | (go_simp; with_reducible rfl)
    try simp only [Act.put]
    try simp only [List.setIfInBounds_toArray]
    try simp only [List.set_cons_succ]
    try simp only [List.set_cons_zero]
    refine wpAnyH_take (i := 1) (v := ?_) (at_list rfl) (by kernel_rfl) (by kernel_rfl) (by kernel_rfl) (fun _ _ _ h => h) (Or.inl ⟨by rfl, ?_⟩) (by assumption) ?_
    rotate_left
    · intro w hSw; (try dsimp only at hSw); first | (go_simp; done) | (go_simp; with_reducible rfl)
    try simp only [Act.put]
    try simp only [List.setIfInBounds_toArray]
    try simp only [List.set_cons_succ]
    try simp only [List.set_cons_zero]
    refine wpAnyH_take (i := 2) (v := ?_) (at_list rfl) (by kernel_rfl) (by kernel_rfl) (by kernel_rfl) (fun _ _ _ h => h) (Or.inl ⟨by rfl, ?_⟩) (by assumption) ?_
    rotate_left
    · intro w hSw; (try dsimp only at hSw); first | (go_simp; done) | (go_simp; with_reducible rfl)
    try simp only [Act.put]
    try simp only [List.setIfInBounds_toArray]
    try simp only [List.set_cons_succ]
    try simp only [List.set_cons_zero]
    refine wpAnyH_take (i := 3) (v := ?_) (at_list rfl) (by kernel_rfl) (by kernel_rfl) (by kernel_rfl) (fun _ _ _ h => h) (Or.inl ⟨by rfl, ?_⟩) (by assumption) ?_
    rotate_left
    · intro w hSw; (try dsimp only at hSw); first | (go_simp; done) | (go_simp; with_reducible rfl)
    try simp only [Act.put]
    try simp only [List.setIfInBounds_toArray]
    try simp only [List.set_cons_succ]
    try simp only [List.set_cons_zero]
    refine wpAnyH_take (i := 4) (v := ?_) (at_list rfl) (by kernel_rfl) (by kernel_rfl) (by kernel_rfl) (fun _ _ _ h => h) (Or.inl ⟨by rfl, ?_⟩) (by assumption) ?_
    rotate_left
    · intro w hSw; (try dsimp only at hSw); first | (go_simp; done) | (go_simp; with_reducible rfl)
    try simp only [Act.put]
    try simp only [List.setIfInBounds_toArray]
    try simp only [List.set_cons_succ]
    try simp only [List.set_cons_zero]
    refine wpAnyH_take (i := 5) (v := ?_) (at_list rfl) (by kernel_rfl) (by kernel_rfl) (by kernel_rfl) (fun _ _ _ h => h) (Or.inl ⟨by rfl, ?_⟩) (by assumption) ?_
    rotate_left
    · intro w hSw; (try dsimp only at hSw); first | (go_simp; done) | (go_simp; with_reducible rfl)
    try simp only [Act.put]
    try simp only [List.setIfInBounds_toArray]
    try simp only [List.set_cons_succ]
    try simp only [List.set_cons_zero]
    refine wpAnyH_take (i := 6) (v := ?_) (at_list rfl) (by kernel_rfl) (by kernel_rfl) (by kernel_rfl) (fun _ _ _ h => h) (Or.inl ⟨by rfl, ?_⟩) (by assumption) ?_
    rotate_left
    · intro w hSw; (try dsimp only at hSw); first | (go_simp; done) | (go_simp; with_reducible rfl)
    try simp only [Act.put]
    try simp only [List.setIfInBounds_toArray]
    try simp only [List.set_cons_succ]
    try simp only [List.set_cons_zero]
    refine wpAnyH_take (i := 7) (v := ?_) (at_list rfl) (by kernel_rfl) (by kernel_rfl) (by kernel_rfl) (fun _ _ _ h => h) (Or.inl ⟨by rfl, ?_⟩) (by assumption) ?_
    rotate_left
    · intro w hSw; (try dsimp only at hSw); first | (go_simp; done) | (go_simp; with_reducible rfl)
    try simp only [Act.put]
    try simp only [List.setIfInBounds_toArray]
    try simp only [List.set_cons_succ]
    try simp only [List.set_cons_zero]
    refine wpAnyH_take (i := 8) (v := ?_) (at_list rfl) (by kernel_rfl) (by kernel_rfl) (by kernel_rfl) (fun _ _ _ h => h) (Or.inl ⟨by rfl, ?_⟩) (by assumption) ?_
    rotate_left
    · intro w hSw; (try dsimp only at hSw); first | (go_simp; done) | (go_simp; with_reducible rfl)
    try simp only [Act.put]
    try simp only [List.setIfInBounds_toArray]
    try simp only [List.set_cons_succ]
    try simp only [List.set_cons_zero]
    refine wpAnyH_take (i := 9) (v := ?_) (at_list rfl) (by kernel_rfl) (by kernel_rfl) (by kernel_rfl) (fun _ _ _ h => h) (Or.inl ⟨by rfl, ?_⟩) (by assumption) ?_
    rotate_left
    · intro w hSw; (try dsimp only at hSw); first | (go_simp; done) | (go_simp; with_reducible rfl)
    try simp only [Act.put]
    try simp only [List.setIfInBounds_toArray]
    try simp only [List.set_cons_succ]
    try simp only [List.set_cons_zero]
    refine wpAnyH_take (i := 10) (v := ?_) (at_list rfl) (by kernel_rfl) (by kernel_rfl) (by kernel_rfl) (fun _ _ _ h => h) (Or.inl ⟨by rfl, ?_⟩) (by assumption) ?_
    rotate_left
    · intro w hSw; (try dsimp only at hSw); first | (go_simp; done) | (go_simp; with_reducible rfl)
    try simp only [Act.put]
    try simp only [List.setIfInBounds_toArray]
    try simp only [List.set_cons_succ]
    try simp only [List.set_cons_zero]
    refine wpAnyH_take (i := 11) (v := ?_) (at_list rfl) (by kernel_rfl) (by kernel_rfl) (by kernel_rfl) (fun _ _ _ h => h) (Or.inl ⟨by rfl, ?_⟩) (by assumption) ?_
    rotate_left
    · intro w hSw; (try dsimp only at hSw); first | (go_simp; done) | (go_simp; with_reducible rfl)
    try simp only [Act.put]
    try simp only [List.setIfInBounds_toArray]
    try simp only [List.set_cons_succ]
    try simp only [List.set_cons_zero]
    refine wpAnyH_take (i := 12) (v := ?_) (at_list rfl) (by kernel_rfl) (by kernel_rfl) (by kernel_rfl) (fun _ _ _ h => h) (Or.inl ⟨by rfl, ?_⟩) (by assumption) ?_
    rotate_left
    · intro w hSw; (try dsimp only at hSw); first | (go_simp; done) | (go_simp; with_reducible rfl)
    try simp only [Act.put]
    try simp only [List.setIfInBounds_toArray]
    try simp only [List.set_cons_succ]
    try simp only [List.set_cons_zero]
    refine wpAnyH_take (i := 13) (v := ?_) (at_list rfl) (by kernel_rfl) (by kernel_rfl) (by kernel_rfl) (fun _ _ _ h => h) (Or.inl ⟨by rfl, ?_⟩) (by assumption) ?_
    rotate_left
    · intro w hSw; (try dsimp only at hSw); first | (go_simp; done) | (go_simp; with_reducible rfl)
    try simp only [Act.put]
    try simp only [List.setIfInBounds_toArray]
    try simp only [List.set_cons_succ]
    try simp only [List.set_cons_zero]
    refine wpAnyH_take (i := 14) (v := ?_) (at_list rfl) (by kernel_rfl) (by kernel_rfl) (by kernel_rfl) (fun _ _ _ h => h) (Or.inl ⟨by rfl, ?_⟩) (by assumption) ?_
    rotate_left
    · intro w hSw; (try dsimp only at hSw); first | (go_simp; done) | (go_simp; with_reducible rfl)
    try simp only [Act.put]
    try simp only [List.setIfInBounds_toArray]
    try simp only [List.set_cons_succ]
    try simp only [List.set_cons_zero]
    refine wpAnyH_take (i := 15) (v := ?_) (at_list rfl) (by kernel_rfl) (by kernel_rfl) (by kernel_rfl) (fun _ _ _ h => h) (Or.inl ⟨by rfl, ?_⟩) (by assumption) ?_
    rotate_left
    · intro w hSw; (try dsimp only at hSw); first | (go_simp; done) | (go_simp; with_reducible rfl)
    try simp only [Act.put]
    try simp only [List.setIfInBounds_toArray]
    try simp only [List.set_cons_succ]
    try simp only [List.set_cons_zero]
    refine wpAnyH_take (i := 16) (v := ?_) (at_list rfl) (by kernel_rfl) (by kernel_rfl) (by kernel_rfl) (fun _ _ _ h => h) (Or.inl ⟨by rfl, ?_⟩) (by assumption) ?_
    rotate_left
    · intro w hSw; (try dsimp only at hSw); first | (go_simp; done) | (go_simp; with_reducible rfl)
    try simp only [Act.put]
    try simp only [List.setIfInBounds_toArray]
    try simp only [List.set_cons_succ]
    try simp only [List.set_cons_zero]
    refine wpAnyH_take (i := 17) (v := ?_) (at_list rfl) (by kernel_rfl) (by kernel_rfl) (by kernel_rfl) (fun _ _ _ h => h) (Or.inl ⟨by rfl, ?_⟩) (by assumption) ?_
    rotate_left
    · intro w hSw; (try dsimp only at hSw); first | (go_simp; done) | (go_simp; with_reducible rfl)
    try simp only [Act.put]
    try simp only [List.setIfInBounds_toArray]
    try simp only [List.set_cons_succ]
    try simp only [List.set_cons_zero]
    refine wpAnyH_take (i := 18) (v := ?_) (at_list rfl) (by kernel_rfl) (by kernel_rfl) (by kernel_rfl) (fun _ _ _ h => h) (Or.inl ⟨by rfl, ?_⟩) (by assumption) ?_
    rotate_left
    · intro w hSw; (try dsimp only at hSw); first | (go_simp; done) | (go_simp; with_reducible rfl)
    try simp only [Act.put]
    try simp only [List.setIfInBounds_toArray]
    try simp only [List.set_cons_succ]
    try simp only [List.set_cons_zero]
    refine wpAnyH_take (i := 19) (v := ?_) (at_list rfl) (by kernel_rfl) (by kernel_rfl) (by kernel_rfl) (fun _ _ _ h => h) (Or.inl ⟨by rfl, ?_⟩) (by assumption) ?_
    rotate_left
    · intro w hSw; (try dsimp only at hSw); first | (go_simp; done) | (go_simp; with_reducible rfl)
    try simp only [Act.put]
    try simp only [List.setIfInBounds_toArray]
    try simp only [List.set_cons_succ]
    try simp only [List.set_cons_zero]
    refine wpAnyH_take (i := 20) (v := ?_) (at_list rfl) (by kernel_rfl) (by kernel_rfl) (by kernel_rfl) (fun _ _ _ h => h) (Or.inl ⟨by rfl, ?_⟩) (by assumption) ?_
    rotate_left
    · intro w hSw; (try dsimp only at hSw); first | (go_simp; done) | (go_simp; with_reducible rfl)
    try simp only [Act.put]
    try simp only [List.setIfInBounds_toArray]
    try simp only [List.set_cons_succ]
    try simp only [List.set_cons_zero]
    refine wpAnyH_take (i := 21) (v := ?_) (at_list rfl) (by kernel_rfl) (by kernel_rfl) (by kernel_rfl) (fun _ _ _ h => h) (Or.inl ⟨by rfl, ?_⟩) (by assumption) ?_
    rotate_left
    · intro w hSw; (try dsimp only at hSw); first | (go_simp; done) | (go_simp; with_reducible rfl)
    try simp only [Act.put]
    try simp only [List.setIfInBounds_toArray]
    try simp only [List.set_cons_succ]
    try simp only [List.set_cons_zero]
    refine wpAnyH_take (i := 22) (v := ?_) (at_list rfl) (by kernel_rfl) (by kernel_rfl) (by kernel_rfl) (fun _ _ _ h => h) (Or.inl ⟨by rfl, ?_⟩) (by assumption) ?_
    rotate_left
    · intro w hSw; (try dsimp only at hSw); first | (go_simp; done) | (go_simp; with_reducible rfl)
    try simp only [Act.put]
    try simp only [List.setIfInBounds_toArray]
    try simp only [List.set_cons_succ]
    try simp only [List.set_cons_zero]
    refine wpAnyH_take (i := 23) (v := ?_) (at_list rfl) (by kernel_rfl) (by kernel_rfl) (by kernel_rfl) (fun _ _ _ h => h) (Or.inl ⟨by rfl, ?_⟩) (by assumption) ?_
    rotate_left
    · intro w hSw; (try dsimp only at hSw); first | (go_simp; done) | (go_simp; with_reducible rfl)
    try simp only [Act.put]
    try simp only [List.setIfInBounds_toArray]
    try simp only [List.set_cons_succ]
    try simp only [List.set_cons_zero]
    refine wpAnyH_take (i := 24) (v := ?_) (at_list rfl) (by kernel_rfl) (by kernel_rfl) (by kernel_rfl) (fun _ _ _ h => h) (Or.inl ⟨by rfl, ?_⟩) (by assumption) ?_
    rotate_left
    · intro w hSw; (try dsimp only at hSw); first | (go_simp; done) | (go_simp; with_reducible rfl)
    try simp only [Act.put]
    try simp only [List.setIfInBounds_toArray]
    try simp only [List.set_cons_succ]
    try simp only [List.set_cons_zero]
    refine wpAnyH_take (i := 25) (v := ?_) (at_list rfl) (by kernel_rfl) (by kernel_rfl) (by kernel_rfl) (fun _ _ _ h => h) (Or.inl ⟨by rfl, ?_⟩) (by assumption) ?_
    rotate_left
    · intro w hSw; (try dsimp only at hSw); first | (go_simp; done) | (go_simp; with_reducible rfl)
    try simp only [Act.put]
    try simp only [List.setIfInBounds_toArray]
    try simp only [List.set_cons_succ]
    try simp only [List.set_cons_zero]
    refine wpAnyH_done (by kernel_rfl) ?_ _
    refine NoPanic.normal ?_
    go_wp2_with fail
    go_meet
    case rel => exact ⟨rfl, hHeld⟩
  case rest =>
    obtain ⟨rfl, hbc⟩ := hcut
    have HB2 := hide ((unhide HB1).trans (hbc.mono (unhide HB1).size))
    rw [← unhide HQ]
    clear hbc g0 g1 g2 g3 g4 g5 g6 t0 t1 t2 b0 b1 b2 c0 c1 c2 e0 e1 e2 z0 z1 z2 hq0 hq1 hq2 HQ
    obtain ⟨I, HI⟩ : ∃ I, Hid (I = strOfNums (hexP x 3)) := ⟨_, hide rfl⟩
    rw [← unhide HI]
    go_wp2_with fail
    refine (valued_any (strOfNums B) 15 4 _ (by omega) (by omega) (by omega)).mono ?_
    rintro e w3 ⟨rfl, rfl⟩
    rw [unhide HN]
    go_wp2
    go_loopw [10, 11] (fun v i wr => ∃ k : Nat, k ≤ n ∧ i = .int .i64 k ∧ v = .string (strOfNums (pOf B k)) ∧ Below w.heap.size w wr) (fun _ i _ => n - (intOf i).toNat)
    case atStart => exact ⟨0, by omega, rfl, rfl, unhide HB2⟩
    case round =>
      obtain ⟨k, hk, rfl, rfl, hb⟩ := hrel
      have HB := hide hb
      clear hb
      have hsz := strOfNums_size (pOf B k)
      rw [pOf_len] at hsz
      by_cases hlt : k < n
      · obtain ⟨y, hy⟩ : ∃ y, y = valT (fun j => B.getD (19 + 8 * k + j) 0) 8 := ⟨_, rfl⟩
        have HY := hide (show valT (fun j => bt (strOfNums B) (19 + 8 * k + j)) 8 = y by rw [val_str (unhide HBB), hy])
        have hyl : y < 256 := by rw [hy]; exact valT_lt _ 8
        have HP := hide (show strOfNums (pOf B (k + 1)) = strOfNums (pOf B k) ++ strOfNums [(y : Int)] by rw [pOf_succ, str_app, hy])
        have hz1 := strOfNums_size [(y : Int)]
        simp only [List.length_cons, List.length_nil] at hz1
        have hconv := fun (wx : World) => conv_one wx (y : Int)
        clear hy
        go_wp2_with fail
        refine (valued_any (strOfNums B) (19 + 8 * k) 8 _ (by omega) (by omega) (by omega)).mono ?_
        rintro e w4 ⟨rfl, rfl⟩
        rw [unhide HY]
        go_wp2
        go_roundw
        case rel => exact ⟨k + 1, by omega, by go_num, by rw [unhide HP], (unhide HB).alloc (unhide HB).size _⟩
        case measure => simp [intOf]; omega
      · obtain rfl : k = n := by omega
        have HNI : Hid (idNum I = x) := hide (by rw [unhide HI]; exact num_of_id hx2)
        have hI3 : I.size = 3 := by rw [unhide HI, strOfNums_size, hexP_three x hx2]; rfl
        have HPB := hide (bl_str (pOf_byts B k))
        go_wp2_with fail
        refine (rFrame_any I (strOfNums (pOf B k)) _ (by rw [hI3]; decide)).mono ?_
        rintro e w5 ⟨rfl, hb5⟩
        have HB5 := hide ((unhide HB).trans (hb5.mono (unhide HB).size))
        clear hb5
        by_cases h8 : k ≤ 8
        · have HF := hide (frm_eta (show frmOut I (strOfNums (pOf B k)) = (strOfNums (frmL x (pOf B k)), 0) by rw [frmOut, if_neg (by omega), unhide HNI, if_neg (by omega), Int.toNat_natCast, unhide HPB]))
          rw [(unhide HF).1, (unhide HF).2]
          by_cases heq : frmL x (pOf B k) = bl s
          · have HO := hide (df_eta (dfOut_some hl (show dfL (bl s) = some (x, pOf B k) by rw [unhide HD, if_pos ⟨h8, heq⟩])))
            have hse : strOfNums (frmL x (pOf B k)) = s := by rw [heq, str_bl]
            rw [hse]
            clear hse heq
            go_wp2
            go_ret3
            exact ⟨by rw [(unhide HO).1, (unhide HO).2.1, (unhide HO).2.2, ← unhide HI]; rfl, unhide HB5⟩
          · have HO := hide (df_eta (dfOut_none hl (show dfL (bl s) = none by rw [unhide HD, if_neg (fun h => heq h.2)])))
            have hne : strOfNums (frmL x (pOf B k)) ≠ s := fun h => heq (by rw [← h, bl_str (bits_byts (frmL_bits _ _))])
            obtain ⟨F, hFe⟩ : ∃ F, F = strOfNums (frmL x (pOf B k)) := ⟨_, rfl⟩
            rw [← hFe] at hne
            rw [← hFe]
            have hnb : (F.toList == s.toList) = false := str_ne hne
            clear heq hFe
            go_wp2
            go_ret3
            exact ⟨by rw [(unhide HO).1, (unhide HO).2.1, (unhide HO).2.2]; rfl, unhide HB5⟩
        · have HF := hide (frm_eta (show frmOut I (strOfNums (pOf B k)) = (noBytes, 1) by rw [frmOut, if_pos (by omega)]))
          have HO := hide (df_eta (dfOut_none hl (show dfL (bl s) = none by rw [unhide HD, if_neg (fun h => h8 h.1)])))
          rw [(unhide HF).1, (unhide HF).2]
          go_wp2
          go_ret3
          exact ⟨by rw [(unhide HO).1, (unhide HO).2.1, (unhide HO).2.2]; rfl, unhide HB5⟩

end Go.Proofs.Ytoihlnjcgopdlab

namespace Go.Proofs.Ytoihlnjcgopdlab
open Go.RowKit

theorem num_any (x : Int) (w : World) : Calls Try.prog 13 #[.int .i64 x] w fun e w' => e = .returned (.int .i64 x) ∧ w = w' := by
  go_enter Try.func13, Try.ntmps13
  go_wp2
  go_ret
  exact ⟨rfl, rfl⟩

set_option maxRecDepth 100000 in
set_option maxHeartbeats 1000000 in
theorem Same_any (u v : Value) (Z : List Int) (w : World) (hu : IntsAt w u Z) (hv : IntsAt w v Z) (hl8 : Z.length * 8 ≤ 140737488351232) :
    Calls Try.prog 22 #[u, v] w fun e w' => e = .returned (.bool true) ∧ Below w.heap.size w w' := by
  obtain ⟨ua, ucap, rfl, hu1, hu2, hu3⟩ := hu
  obtain ⟨va, vcap, rfl, hv1, hv2, hv3⟩ := hv
  have HU2 := hide hu2
  have HU3 := hide hu3
  have HV2 := hide hv2
  have HV3 := hide hv3
  clear hu2 hu3 hv2 hv3
  have hne : ((Z.length : Int) != (Z.length : Int)) = false := by simp
  go_enter Try.func22, Try.ntmps22
  go_wp2
  go_loopw [5] (fun i wr => ∃ k : Nat, k ≤ Z.length ∧ i = .int .i64 k ∧ Below w.heap.size w wr) (fun i _ => Z.length - (intOf i).toNat)
  case atStart => exact ⟨0, by omega, rfl, Below.refl _ _⟩
  case round =>
    obtain ⟨k, hk, rfl, hb⟩ := hrel
    by_cases hlt : k < Z.length
    · cases ua with
      | none => have := unhide HU2 rfl; omega
      | some xa =>
        cases va with
        | none => have := unhide HV2 rfl; omega
        | some ya =>
          have hx := fun (wx : World) (h : Below w.heap.size w wx) => ints_cell (unhide HU3 xa rfl) h hlt
          have hy := fun (wx : World) (h : Below w.heap.size w wx) => ints_cell (unhide HV3 ya rfl) h hlt
          have hi0 : (0 : Int) ≤ (k : Int) := by omega
          have hi1 : (k : Int) < (Z.length : Int) := by omega
          have hzz : (zAt Z k != zAt Z k) = false := by simp
          go_wp2
          refine wp_region_noPanic ?_
          refine wp_region_held_drew (S := fun w' => Below w.heap.size w w') (by kernel_rfl) hb.drew (fun hHeld => ?_)
          refine wpAnyH_take (i := 0) (v := ?_) (at_list rfl) (by kernel_rfl) (by kernel_rfl) (by kernel_rfl) (fun _ _ _ h => h) (Or.inl ⟨by rfl, ?_⟩) (by assumption) ?_
          rotate_left
          · intro w hSw; (try dsimp only at hSw); first | (go_simp; done) | (go_simp; with_reducible rfl)
          try simp only [Act.put]
          try simp only [List.setIfInBounds_toArray]
          try simp only [List.set_cons_succ]
          try simp only [List.set_cons_zero]
          refine wpAnyH_take (i := 1) (v := ?_) (at_list rfl) (by kernel_rfl) (by kernel_rfl) (by kernel_rfl) (fun _ _ _ h => h) (Or.inl ⟨by rfl, ?_⟩) (by assumption) ?_
          rotate_left
          · intro w hSw; (try dsimp only at hSw); first | (go_simp; done) | (go_simp; with_reducible rfl)
          try simp only [Act.put]
          try simp only [List.setIfInBounds_toArray]
          try simp only [List.set_cons_succ]
          try simp only [List.set_cons_zero]
          refine wpAnyH_take (i := 2) (v := ?_) (at_list rfl) (by kernel_rfl) (by kernel_rfl) (by kernel_rfl) (fun _ _ _ h => h) (Or.inl ⟨by rfl, ?_⟩) (by assumption) ?_
          rotate_left
          · intro w hSw; (try dsimp only at hSw); first | (go_simp; done) | (go_simp; with_reducible rfl)
          try simp only [Act.put]
          try simp only [List.setIfInBounds_toArray]
          try simp only [List.set_cons_succ]
          try simp only [List.set_cons_zero]
          refine wpAnyH_take (i := 3) (v := ?_) (at_list rfl) (by kernel_rfl) (by kernel_rfl) (by kernel_rfl) (fun _ _ _ h => h) (Or.inl ⟨by rfl, ?_⟩) (by assumption) ?_
          rotate_left
          · intro w hSw; (try dsimp only at hSw); first | (go_simp; done) | (go_simp; with_reducible rfl)
          try simp only [Act.put]
          try simp only [List.setIfInBounds_toArray]
          try simp only [List.set_cons_succ]
          try simp only [List.set_cons_zero]
          refine wpAnyH_take (i := 4) (v := ?_) (at_list rfl) (by kernel_rfl) (by kernel_rfl) (by kernel_rfl) (fun _ _ _ h => h) (Or.inl ⟨by rfl, ?_⟩) (by assumption) ?_
          rotate_left
          · intro w hSw; (try dsimp only at hSw); first | (go_simp; done) | (go_simp; with_reducible rfl)
          try simp only [Act.put]
          try simp only [List.setIfInBounds_toArray]
          try simp only [List.set_cons_succ]
          try simp only [List.set_cons_zero]
          refine wpAnyH_take (i := 5) (v := ?_) (at_list rfl) (by kernel_rfl) (by kernel_rfl) (by kernel_rfl) (fun _ _ _ h => h) (Or.inl ⟨by rfl, ?_⟩) (by assumption) ?_
          rotate_left
          · intro w hSw; (try dsimp only at hSw); first | (go_simp; done) | (go_simp; with_reducible rfl)
          try simp only [Act.put]
          try simp only [List.setIfInBounds_toArray]
          try simp only [List.set_cons_succ]
          try simp only [List.set_cons_zero]
          refine wpAnyH_take (i := 6) (v := ?_) (at_list rfl) (by kernel_rfl) (by kernel_rfl) (by kernel_rfl) (fun _ _ _ h => h) (Or.inl ⟨by rfl, ?_⟩) (by assumption) ?_
          rotate_left
          · intro w hSw; (try dsimp only at hSw); first | (go_simp; done) | (go_simp; with_reducible rfl)
          try simp only [Act.put]
          try simp only [List.setIfInBounds_toArray]
          try simp only [List.set_cons_succ]
          try simp only [List.set_cons_zero]
          refine wpAnyH_take (i := 7) (v := ?_) (at_list rfl) (by kernel_rfl) (by kernel_rfl) (by kernel_rfl) (fun _ _ _ h => h) (Or.inl ⟨by rfl, ?_⟩) (by assumption) ?_
          rotate_left
          · intro w hSw; (try dsimp only at hSw); first | (go_simp; done) | (go_simp; with_reducible rfl)
          try simp only [Act.put]
          try simp only [List.setIfInBounds_toArray]
          try simp only [List.set_cons_succ]
          try simp only [List.set_cons_zero]
          refine wpAnyH_take (i := 8) (v := ?_) (at_list rfl) (by kernel_rfl) (by kernel_rfl) (by kernel_rfl) (fun _ _ _ h => h) (Or.inl ⟨by rfl, ?_⟩) (by assumption) ?_
          rotate_left
          · intro w hSw; (try dsimp only at hSw); first | (go_simp; done) | (go_simp; with_reducible rfl)
          try simp only [Act.put]
          try simp only [List.setIfInBounds_toArray]
          try simp only [List.set_cons_succ]
          try simp only [List.set_cons_zero]
          refine wpAnyH_done (by kernel_rfl) ?_ _
          refine NoPanic.normal ?_
          clear hx hy
          go_wp2
          go_roundw
          case rel => exact ⟨k + 1, by omega, by go_num, by assumption⟩
          case measure => simp [intOf]; omega
    · go_wp2
      go_ret
      exact ⟨rfl, hb⟩

end Go.Proofs.Ytoihlnjcgopdlab

namespace Go.Proofs.Ytoihlnjcgopdlab
open Go.RowKit

set_option maxHeartbeats 400000 in
theorem Frames_any (id p : ByteArray) (w : World) (hid : id.size ≤ maxLen) :
    Calls Try.prog 3 #[.string id, .string p] w fun e w' => e = .returned (.bool true) ∧ Below w.heap.size w w' := by
  go_enter Try.func3, Try.ntmps3
  go_wp2_with fail
  refine (Frame_any id p _ hid).mono ?_
  rintro e w1 ⟨rfl, hb1⟩
  go_wp2_with fail
  refine (rFrame_any id p _ hid).mono ?_
  rintro e w2 ⟨rfl, hb2⟩
  have HB := hide (hb1.trans (hb2.mono hb1.size))
  clear hb1 hb2
  generalize (frmOut id p).1 = x1
  generalize (frmOut id p).2 = x2
  go_wp2_with (go_at_call 13; refine (num_any _ _).mono ?_; rintro e w' ⟨rfl, rfl⟩)
  go_ret
  exact ⟨rfl, unhide HB⟩

set_option maxHeartbeats 400000 in
theorem Deframes_any (s : ByteArray) (w : World) (hs : s.size ≤ maxLen) :
    Calls Try.prog 4 #[.string s] w fun e w' => e = .returned (.bool true) ∧ Below w.heap.size w w' := by
  go_enter Try.func4, Try.ntmps4
  go_wp2_with fail
  refine (Deframe_any s _).mono ?_
  rintro e w1 ⟨rfl, hb1⟩
  go_wp2_with fail
  refine (rDeframe_any s _ hs).mono ?_
  rintro e w2 ⟨rfl, hb2⟩
  have HB := hide (hb1.trans (hb2.mono hb1.size))
  clear hb1 hb2
  generalize (dfOut s).1 = x1
  generalize (dfOut s).2.1 = x2
  generalize (dfOut s).2.2 = x3
  go_wp2_with (go_at_call 13; refine (num_any _ _).mono ?_; rintro e w' ⟨rfl, rfl⟩)
  go_ret
  exact ⟨rfl, unhide HB⟩

theorem head0 {c : Int} : headB 0 c = (decide (48 ≤ c) && decide (c ≤ 55)) := rfl
theorem hex_no {c : Int} (h : c < 48 ∨ (57 < c ∧ c < 65) ∨ 70 < c) : isHexB c = false := by
  simp [isHexB, isDigB]; omega
theorem hex_yes {c : Int} (h : (48 ≤ c ∧ c ≤ 57) ∨ (65 ≤ c ∧ c ≤ 70)) : isHexB c = true := by
  simp [isHexB, isDigB]; omega

set_option maxRecDepth 100000 in
set_option maxHeartbeats 1000000 in
theorem lIsId_any (s : ByteArray) (w : World) (hs : s.size ≤ maxLen) :
    Calls Try.prog 16 #[.string s] w fun e w' => e = .returned (.bool (idOkB s)) ∧ w' = w := by
  unfold maxLen at hs
  by_cases h3 : s.size = 3
  · have h3b : ((s.size : Int) != 3) = false := by rw [h3]; rfl
    have l0 : 0 < s.size := by omega
    have l0i : (0 : Int) < (s.size : Int) := by omega
    have hle : 3 ≤ s.size := by omega
    have HV := hide (show idOkB s = (headB 0 (bt s 0) && (isHexB (bt s 1) && isHexB (bt s 2))) by rw [idOkB, idBad_eq]; simp [h3])
    have HE := hide (bt_of l0)
    clear h3
    rcases (show (s[0].toNat : Int) < 48 ∨ 55 < (s[0].toNat : Int) ∨ (48 ≤ (s[0].toNat : Int) ∧ (s[0].toNat : Int) ≤ 55) by omega) with hc | hc | ⟨hc1, hc2⟩
    · have HF := hide (show idOkB s = false by rw [unhide HV, head0, ← unhide HE]; simp; omega)
      go_enter Try.func16, Try.ntmps16
      go_wp2
      go_ret
      exact ⟨ret_bool (by rw [unhide HF]), rfl⟩
    · have HF := hide (show idOkB s = false by rw [unhide HV, head0, ← unhide HE]; simp; omega)
      go_enter Try.func16, Try.ntmps16
      go_wp2
      go_ret
      exact ⟨ret_bool (by rw [unhide HF]), rfl⟩
    · have H0 := hide (show headB 0 (bt s 0) = true by rw [head0, ← unhide HE]; simp; omega)
      go_enter Try.func16, Try.ntmps16
      go_wp2
      go_loop [3] (fun r => ∃ k : Nat, 1 ≤ k ∧ k ≤ 3 ∧ r = .int .i64 k ∧ ∀ j, 1 ≤ j → j < k → isHexB (bt s j) = true) (fun r => 3 - (intOf r).toNat)
      case atStart => exact ⟨1, by omega, by omega, rfl, by intro j h1 h2; omega⟩
      case round =>
        obtain ⟨k, hk1, hk3, rfl, hyes⟩ := hrel
        have HY := hide hyes
        clear hyes
        by_cases hlt : k < 3
        · have hks : k < s.size := by omega
          have HEK := hide (bt_of hks)
          have HNO := hide (show isHexB (s[k].toNat : Int) = false → idOkB s = false from fun h => by
            rw [unhide HEK] at h
            rw [unhide HV]
            obtain rfl | rfl : k = 1 ∨ k = 2 := by omega
            · rw [h]; simp
            · rw [h]; simp)
          rcases (show (s[k].toNat : Int) < 48 ∨ (57 < (s[k].toNat : Int) ∧ (s[k].toNat : Int) < 65) ∨ 70 < (s[k].toNat : Int) ∨ (48 ≤ (s[k].toNat : Int) ∧ (s[k].toNat : Int) ≤ 57) ∨ (65 ≤ (s[k].toNat : Int) ∧ (s[k].toNat : Int) ≤ 70) by omega) with hc | ⟨hc, hd⟩ | hc | ⟨hc, hd⟩ | ⟨hc, hd⟩
          · have HF := hide (unhide HNO (hex_no (.inl hc)))
            go_wp2
            go_ret
            exact ⟨ret_bool (by rw [unhide HF]), rfl⟩
          · have HF := hide (unhide HNO (hex_no (.inr (.inl ⟨hc, hd⟩))))
            go_wp2
            go_ret
            exact ⟨ret_bool (by rw [unhide HF]), rfl⟩
          · have HF := hide (unhide HNO (hex_no (.inr (.inr hc))))
            go_wp2
            go_ret
            exact ⟨ret_bool (by rw [unhide HF]), rfl⟩
          · have HF := hide (hex_yes (.inl ⟨hc, hd⟩))
            go_wp2
            go_round
            case rel => exact ⟨k + 1, by omega, by omega, by go_num, fun j h1 h2 => by
              by_cases e : j = k
              · subst e; rw [← unhide HEK]; exact unhide HF
              · exact unhide HY j h1 (by omega)⟩
            case measure => simp [intOf]; omega
          · have HF := hide (hex_yes (.inr ⟨hc, hd⟩))
            go_wp2
            go_round
            case rel => exact ⟨k + 1, by omega, by omega, by go_num, fun j h1 h2 => by
              by_cases e : j = k
              · subst e; rw [← unhide HEK]; exact unhide HF
              · exact unhide HY j h1 (by omega)⟩
            case measure => simp [intOf]; omega
        · have HF := hide (show idOkB s = true by rw [unhide HV, unhide H0, unhide HY 1 (by omega) (by omega), unhide HY 2 (by omega) (by omega)]; rfl)
          go_wp2
          go_ret
          exact ⟨ret_bool (by rw [unhide HF]), rfl⟩
  · have h3b : ((s.size : Int) != 3) = true := by rw [bne_iff_ne]; omega
    have HV := hide (show idOkB s = false by simp [idOkB, h3])
    clear h3
    go_enter Try.func16, Try.ntmps16
    go_wp2
    go_ret
    exact ⟨ret_bool (by rw [unhide HV]), rfl⟩

theorem frmOut_cases (id p : ByteArray) : (8 < p.size ∧ frmOut id p = (noBytes, 1)) ∨ (¬ 8 < p.size ∧ idOkB id = false ∧ frmOut id p = (noBytes, 7)) ∨ ∃ F, frmOut id p = (F, 0) ∧ dfOut F = (id, p, 0) := by
  by_cases h8 : 8 < p.size
  · exact .inl ⟨h8, by rw [frmOut, if_pos h8]⟩
  · by_cases hn : idNum id < 0
    · exact .inr (.inl ⟨h8, by rw [idOk_num]; simp; omega, by rw [frmOut, if_neg h8, if_pos hn]⟩)
    · have e : frmOut id p = (strOfNums (frmL (idNum id).toNat (bl p)), 0) := by rw [frmOut, if_neg h8, if_neg hn]
      exact .inr (.inr ⟨_, e, df_of_frm e⟩)

set_option maxRecDepth 100000 in
set_option maxHeartbeats 1000000 in
theorem Whole_any (id p : ByteArray) (w : World) (hid : id.size ≤ maxLen) :
    Calls Try.prog 5 #[.string id, .string p] w fun e w' => e = .returned (.bool true) ∧ Below w.heap.size w w' := by
  go_enter Try.func5, Try.ntmps5
  go_wp2_with fail
  refine (Frame_any id p _ hid).mono ?_
  rintro e w1 ⟨rfl, hb1⟩
  have HB1 := hide hb1
  clear hb1
  rcases frmOut_cases id p with ⟨h8, hF⟩ | ⟨h8, hok, hF⟩ | ⟨F, hF, hD⟩
  · rw [hF]
    clear hF
    unfold noBytes
    go_wp2_with (go_at_call 13; refine (num_any _ _).mono ?_; rintro e w' ⟨rfl, rfl⟩)
    go_ret
    exact ⟨rfl, unhide HB1⟩
  · rw [hF]
    clear hF
    unfold noBytes
    go_wp2_with (first | (go_at_call 13; refine (num_any _ _).mono ?_; rintro e w' ⟨rfl, rfl⟩) | (go_at_call 16; refine (lIsId_any _ _ hid).mono ?_; rintro e w' ⟨rfl, rfl⟩; rw [hok]))
    go_ret
    exact ⟨rfl, unhide HB1⟩
  · rw [hF]
    have HD := hide hD
    clear hF hD
    go_wp2_with (go_at_call 13; refine (num_any _ _).mono ?_; rintro e w' ⟨rfl, rfl⟩)
    refine (Deframe_any F _).mono ?_
    rintro e w2 ⟨rfl, hb2⟩
    have HB2 := hide ((unhide HB1).trans (hb2.mono (unhide HB1).size))
    clear hb2
    rw [unhide HD]
    go_wp2_with (go_at_call 13; refine (num_any _ _).mono ?_; rintro e w' ⟨rfl, rfl⟩)
    go_ret
    exact ⟨rfl, unhide HB2⟩

set_option maxRecDepth 100000 in
set_option maxHeartbeats 1000000 in
theorem Strict_any (s : ByteArray) (w : World) :
    Calls Try.prog 6 #[.string s] w fun e w' => e = .returned (.bool true) ∧ Below w.heap.size w w' := by
  go_enter Try.func6, Try.ntmps6
  go_wp2_with fail
  refine (Deframe_any s _).mono ?_
  rintro e w1 ⟨rfl, hb1⟩
  have HB1 := hide hb1
  clear hb1
  rcases dfOut_err s with ⟨hl, hD⟩ | ⟨hl, hD⟩ | ⟨hl, a, p, hD⟩
  · rw [hD]
    clear hD
    unfold noBytes
    go_wp2_with (go_at_call 13; refine (num_any _ _).mono ?_; rintro e w' ⟨rfl, rfl⟩)
    go_ret
    exact ⟨ret_bool (decide_eq_true (by omega)), unhide HB1⟩
  · rw [hD]
    clear hD
    unfold noBytes
    go_wp2_with (go_at_call 13; refine (num_any _ _).mono ?_; rintro e w' ⟨rfl, rfl⟩)
    go_ret
    exact ⟨rfl, unhide HB1⟩
  · have hF := frm_of_df hD
    have h3 := (frm_sizes hF).1
    rw [hD]
    have HF := hide hF
    clear hF hD
    go_wp2_with (go_at_call 13; refine (num_any _ _).mono ?_; rintro e w' ⟨rfl, rfl⟩)
    refine (Frame_any a p _ (by rw [h3]; decide)).mono ?_
    rintro e w2 ⟨rfl, hb2⟩
    have HB2 := hide ((unhide HB1).trans (hb2.mono (unhide HB1).size))
    clear hb2
    rw [unhide HF]
    go_wp2_with (go_at_call 13; refine (num_any _ _).mono ?_; rintro e w' ⟨rfl, rfl⟩)
    go_ret
    exact ⟨rfl, unhide HB2⟩

end Go.Proofs.Ytoihlnjcgopdlab

namespace Go.Proofs.Ytoihlnjcgopdlab
open Go.RowKit

set_option maxHeartbeats 400000 in
theorem Check_any (s : ByteArray) (w : World) (hs : s.size ≤ maxLen) :
    Calls Try.prog 41 #[.string s] w fun e w' => e = .returned (.tuple #[.int .i64 (chkE s), .int .i64 (chkP s)]) ∧ Below w.heap.size w w' := by
  go_enter Try.func41, Try.ntmps41
  go_wp2_with fail
  refine (soundMessages_any s _ hs).mono ?_
  rintro e w1 ⟨hout, hb1⟩
  rcases hout with ⟨hz, v, P, rfl, hpd, hm, hl, hok⟩ | ⟨hz, rfl⟩
  · have HZ := hide hz
    clear hz hpd hm hok
    go_wp2
    go_ret2
    exact ⟨by rw [unhide HZ, chk_ok (unhide HZ)]; rfl, hb1⟩
  · clear hz
    go_wp2
    go_ret2
    exact ⟨rfl, hb1⟩

end Go.Proofs.Ytoihlnjcgopdlab

namespace Go.Proofs.Ytoihlnjcgopdlab
open Go.RowKit

theorem pk_eta (x : ByteArray × Int × Int) {a : ByteArray} {b c : Int} (h : x = (a, b, c)) : x.1 = a ∧ x.2.1 = b ∧ x.2.2 = c := by rw [h]; exact ⟨rfl, rfl, rfl⟩

set_option maxRecDepth 100000 in
set_option maxHeartbeats 2000000 in
theorem Pack_any (s id : ByteArray) (vz : Value) (Z : List Int) (w : World) (hs : s.size ≤ maxLen) (hid : id.size ≤ maxLen) (hz : IntsAt w vz Z) :
    Calls Try.prog 27 #[.string s, .string id, vz] w fun e w' => e = .returned (.tuple #[.string (pk s id Z).1, .int .i64 (pk s id Z).2.1, .int .i64 (pk s id Z).2.2]) ∧ Below w.heap.size w w' := by
  have HZZ := hide hz
  obtain ⟨za, zcap, rfl, hz1, hz2, hz3⟩ := hz
  have HZ2 := hide hz2
  have HZ3 := hide hz3
  clear hz2 hz3
  go_enter Try.func27, Try.ntmps27
  go_wp2_with fail
  refine (soundMessage_any s id _ hs hid).mono ?_
  rintro e w1 ⟨hout, hb1⟩
  have HB1 := hide hb1
  clear hb1
  rcases hout with ⟨hz, rfl⟩ | ⟨hz, M, hpd, hout⟩
  · have HP := hide (pk_eta _ (pk_bad (id := id) (Z := Z) hz))
    have hz2 : (chkE s != 0) = true := by simpa using hz
    clear hz
    go_wp2
    go_ret3
    exact ⟨by rw [(unhide HP).1, (unhide HP).2.1, (unhide HP).2.2]; rfl, (unhide HB1).alloc (unhide HB1).size _⟩
  rcases hout with ⟨hix, rfl⟩ | ⟨k, sv, hk, hix, rfl, hsv, hmo⟩
  · have HP := hide (pk_eta _ (pk_id (Z := Z) hz hpd hix))
    clear hz hpd hix
    go_wp2
    go_ret3
    exact ⟨by rw [(unhide HP).1, (unhide HP).2.1, (unhide HP).2.2]; rfl, (unhide HB1).alloc (unhide HB1).size _⟩
  obtain ⟨m, hm⟩ : ∃ m, m = mAt M k := ⟨_, rfl⟩
  have HPK := hide (pk_msg (Z := Z) hz hpd hix)
  have HG := hide (good_of hpd hk).2
  have HAF := hide (sound_fits hz hpd hk)
  rw [← hm] at hsv hmo HPK HG HAF
  rw [← hm]
  obtain ⟨va, vcap, rfl⟩ := ownsRow_form hsv
  have HSV := hide hsv
  have HMO := hide hmo
  have hlen8 := hmo.len
  have hsz0 := hmo.sz0
  have hsz1 := hmo.sz1
  have hszn : ((m.sz.toNat : Nat) : Int) = m.sz := Int.toNat_of_nonneg hmo.sz0
  have HSN := hide hszn
  clear hz hpd hix hsv hmo hm hk hszn
  have HBB : Hid (Below (w1.heap.size + 1) (w1.alloc (.cells #[.int .i64 m.pl, .int .i64 (idNum m.id), .int .i64 m.sz, .slice va m.sigs.length vcap] 82)) (w1.alloc (.cells #[.int .i64 m.pl, .int .i64 (idNum m.id), .int .i64 m.sz, .slice va m.sigs.length vcap] 82))) := hide (Below.refl _ _)
  by_cases hln : Z.length = m.sigs.length
  · have hl2 : ((Z.length : Int) != (m.sigs.length : Int)) = false := by rw [hln]; simp
    have HLN := hide hln
    have hle1 : Z.length ≤ m.sigs.length := by omega
    have hle2 : m.sigs.length ≤ Z.length := by omega
    clear hln
    go_wp2_with fail
    refine (multiplexor_any _ m.sigs _ (ownsRow_below (unhide HSV) (box_below (unhide HBB))) hlen8).mono ?_
    rintro e w2 ⟨rfl, rfl⟩
    have HC : Hid (IntsAt w1 (.slice za Z.length zcap) Z) := hide ((unhide HZZ).below (unhide HB1))
    rcases mux_range m.sigs with hmx | ⟨x, hx, hmx, _⟩
    · have HCH := hide (show choiceOf m.sigs Z = 0 by rw [choiceOf, hmx]; rfl)
      have hmx2 : muxOf m.sigs < 0 := by omega
      clear hmx
      go_wp2_with fail
      refine (firstUnfit_any _ _ m.sigs Z 0 _ (ownsRow_below (unhide HSV) (box_below (unhide HBB))) ((unhide HC).below (box_below (unhide HBB))) (unhide HLN) (unhide HG)).mono ?_
      rintro e w3 ⟨rfl, hb3⟩
      have HB3 := hide (box_next (unhide HBB) hb3)
      have hx3 := box_cell (unhide HB3)
      clear hb3
      by_cases hu : 0 ≤ firstUn m.sigs Z 0
      · have HP := hide (pk_eta _ (show pk s id Z = (noBytes, 9, firstUn m.sigs Z 0) by rw [unhide HPK, pkMsg, if_neg (by rw [unhide HLN]; simp), unhide HCH, if_pos hu]))
        go_wp2
        go_ret3
        exact ⟨by rw [(unhide HP).1, (unhide HP).2.1, (unhide HP).2.2]; rfl, (unhide HB1).trans ((box_below (unhide HB3)).mono (unhide HB1).size)⟩
      · have HP := hide (pk_eta _ (show pk s id Z = (payB (bitsTo m.sigs Z 0 m.sigs.length) m.sz.toNat, 0, 0) by rw [unhide HPK, pkMsg, if_neg (by rw [unhide HLN]; simp), unhide HCH, if_neg hu]))
        go_wp2_with fail
        refine (packBits_any _ _ m.sigs Z 0 _ (ownsRow_below (unhide HSV) (box_below (unhide HB3))) ((unhide HC).below (box_below (unhide HB3))) (unhide HLN) (unhide HG) (unhide HAF)).mono ?_
        rintro e w4 ⟨rfl, hb4⟩
        have HB4 := hide (box_next (unhide HB3) hb4)
        clear hx3 hb4
        have hx4 := box_cell (unhide HB4)
        go_wp2_with fail
        rw [← unhide HSN]
        refine (payloadText_any _ m.sz.toNat _ (by omega)).mono ?_
        rintro e w5 ⟨rfl, hb5⟩
        have HB5 := hide (box_next (unhide HB4) hb5)
        clear hx4 hb5
        go_wp2
        go_ret3
        exact ⟨by rw [(unhide HP).1, (unhide HP).2.1, (unhide HP).2.2]; rfl, (unhide HB1).trans ((box_below (unhide HB5)).mono (unhide HB1).size)⟩
    · have hchx : choiceOf m.sigs Z = zAt Z x := by rw [choiceOf, hmx, if_pos (by omega), Int.toNat_natCast]
      have HCH := hide hchx
      rw [hmx]
      have hi0 : (0 : Int) ≤ (x : Int) := by omega
      have hi1 : (x : Int) < (Z.length : Int) := by omega
      cases za with
      | none => have := unhide HZ2 rfl; omega
      | some xa =>
        have hzc := ints_cell (unhide HZ3 xa rfl) (Below.trans (unhide HB1) ((box_below (unhide HBB)).mono (unhide HB1).size)) (show x < Z.length by omega)
        clear hchx hmx
        go_wp2_with fail
        refine (firstUnfit_any _ _ m.sigs Z (zAt Z x) _ (ownsRow_below (unhide HSV) (box_below (unhide HBB))) ((unhide HC).below (box_below (unhide HBB))) (unhide HLN) (unhide HG)).mono ?_
        rintro e w3 ⟨rfl, hb3⟩
        have HB3 := hide (box_next (unhide HBB) hb3)
        have hx3 := box_cell (unhide HB3)
        clear hb3
        by_cases hu : 0 ≤ firstUn m.sigs Z (zAt Z x)
        · have HP := hide (pk_eta _ (show pk s id Z = (noBytes, 9, firstUn m.sigs Z (zAt Z x)) by rw [unhide HPK, pkMsg, if_neg (by rw [unhide HLN]; simp), unhide HCH, if_pos hu]))
          go_wp2
          go_ret3
          exact ⟨by rw [(unhide HP).1, (unhide HP).2.1, (unhide HP).2.2]; rfl, (unhide HB1).trans ((box_below (unhide HB3)).mono (unhide HB1).size)⟩
        · have HP := hide (pk_eta _ (show pk s id Z = (payB (bitsTo m.sigs Z (zAt Z x) m.sigs.length) m.sz.toNat, 0, 0) by rw [unhide HPK, pkMsg, if_neg (by rw [unhide HLN]; simp), unhide HCH, if_neg hu]))
          go_wp2_with fail
          refine (packBits_any _ _ m.sigs Z (zAt Z x) _ (ownsRow_below (unhide HSV) (box_below (unhide HB3))) ((unhide HC).below (box_below (unhide HB3))) (unhide HLN) (unhide HG) (unhide HAF)).mono ?_
          rintro e w4 ⟨rfl, hb4⟩
          have HB4 := hide (box_next (unhide HB3) hb4)
          clear hx3 hb4
          have hx4 := box_cell (unhide HB4)
          go_wp2_with fail
          rw [← unhide HSN]
          refine (payloadText_any _ m.sz.toNat _ (by omega)).mono ?_
          rintro e w5 ⟨rfl, hb5⟩
          have HB5 := hide (box_next (unhide HB4) hb5)
          clear hx4 hb5
          go_wp2
          go_ret3
          exact ⟨by rw [(unhide HP).1, (unhide HP).2.1, (unhide HP).2.2]; rfl, (unhide HB1).trans ((box_below (unhide HB5)).mono (unhide HB1).size)⟩
  · have HP := hide (pk_eta _ (show pk s id Z = (noBytes, 8, 0) by rw [unhide HPK, pkMsg, if_pos hln]))
    have hl2 : ((Z.length : Int) != (m.sigs.length : Int)) = true := by rw [bne_iff_ne]; omega
    clear hln
    go_wp2
    go_ret3
    exact ⟨by rw [(unhide HP).1, (unhide HP).2.1, (unhide HP).2.2]; rfl, (unhide HB1).alloc (unhide HB1).size _⟩

end Go.Proofs.Ytoihlnjcgopdlab

namespace Go.Proofs.Ytoihlnjcgopdlab
open Go.RowKit

theorem errOf_reach {L E : List Sg} {s : Sg} {sz : Int} (h : errOf L E s sz = 0) : anyIx (fun k => decide (8 * sz ≤ place s.st s.ln s.od k)) s.ln.toNat = false := by
  cases e : anyIx (fun k => decide (8 * sz ≤ place s.st s.ln s.od k)) s.ln.toNat with
  | false => rfl
  | true =>
    exfalso
    rw [errOf] at h
    split at h
    · omega
    · split at h
      · omega
      · split at h
        · omega
        · first | omega | (rw [if_pos e] at h; omega)

/-- Every bit of every signal lies within the payload. -/
def Within (L : List Sg) (sz : Int) : Prop := ∀ k, k < L.length → ∀ i : Nat, (i : Int) < (sgAt L k).ln → place (sgAt L k).st (sgAt L k).ln (sgAt L k).od i < 8 * sz

theorem sound_within {s : ByteArray} {M : List Mg} (hz : chkE s = 0) (h : pDb s 4 0 = .inr M) {k : Nat} (hk : k < M.length) : Within (mAt M k).sigs (mAt M k).sz := by
  intro j hj i hi
  have h1 := errOf_reach (sound_at hz h hk hj)
  cases e : decide (8 * (mAt M k).sz ≤ place (sgAt (mAt M k).sigs j).st (sgAt (mAt M k).sigs j).ln (sgAt (mAt M k).sigs j).od i) with
  | false => simp at e; omega
  | true => rw [anyIx_true.2 ⟨i, by omega, e⟩] at h1; cases h1

theorem and_one_i64 (x : Int) (h0 : 0 ≤ x) (h1 : x < 9223372036854775808) : bits BinOp.and IntKind.i64 x 1 = x % 2 := by
  have := bits_mask .i64 63 (by decide) (fun n a b => by rw [IntKind.wrap_i64]; omega) 1 (by decide) x h0 (by omega)
  simpa using this

theorem layTo_one {st ln od v : Int} {k : Nat} (h : bitv v k = 1) : layTo st ln od v (k + 1) = layTo st ln od v k ||| 2 ^ (place st ln od k).toNat := by
  rw [layTo, h, Nat.one_mul]
theorem layTo_zero {st ln od v : Int} {k : Nat} (h : bitv v k = 0) : layTo st ln od v (k + 1) = layTo st ln od v k := by
  rw [layTo, h, Nat.zero_mul, Nat.or_zero]

theorem firstUn_none {L : List Sg} {Z : List Int} {c : Int} (h : firstUn L Z c < 0) : ∀ k, k < L.length → activeB (sgAt L k).rl c = true → fitsB (sgAt L k).kd (sgAt L k).ln (zAt Z k) = true := by
  intro k hk ha
  rcases findIx_cases (unfit L Z c) L.length with ⟨_, h2⟩ | ⟨j, _, h2, _⟩
  · have := h2 k hk
    rw [unfit, ha] at this
    simpa using this
  · exfalso; rw [firstUn, h2] at h; omega

end Go.Proofs.Ytoihlnjcgopdlab

namespace Go.Proofs.Ytoihlnjcgopdlab
open Go.RowKit

/-- What the document's Find answers in a text that is a database. -/
def RFOut (M : List Mg) (id : ByteArray) (e : Ending) (w' : World) : Prop :=
  (msgIx M id = -1 ∧ e = .returned (.tuple #[.agg #[.string { data := #[] }, .int .i64 0, .slice none 0 0, .int .i64 0], .bool false])) ∨
    ∃ (k : Nat) (sv : Value), k < M.length ∧ msgIx M id = k ∧ e = .returned (.tuple #[.agg #[.string (mAt M k).id, .int .i64 (mAt M k).sz, sv, .int .i64 (mAt M k).pl], .bool true]) ∧ RSigsAt w' sv (mAt M k).sigs

set_option maxRecDepth 100000 in
set_option maxHeartbeats 1000000 in
theorem rFind_any (s id : ByteArray) (M : List Mg) (w : World) (hs : s.size ≤ 140737488351232) (hpd : pDb s 4 0 = .inr M) :
    Calls Try.prog 24 #[.string s, .string id] w fun e w' => RFOut M id e w' ∧ Below w.heap.size w w' := by
  have HPD := hide hpd
  clear hpd
  go_enter Try.func24, Try.ntmps24
  go_wp2_with fail
  refine (rRead_any s _ hs).mono ?_
  rintro e w1 ⟨hout, hb1⟩
  rw [RDbOut, unhide HPD] at hout
  dsimp only at hout
  obtain ⟨v, P, q, hPM, rfl, hm, hl, hok⟩ := hout
  have HB1 := hide (show Below (w.heap.size + 1) (w.alloc (.cells #[.string { data := #[] }, .int .i64 0, .slice none 0 0, .int .i64 0] 50)) w1 from hb1.mono (by simp))
  have hx := fun j => box_cell (unhide HB1) j
  have hlt1 : w.heap.size < w1.heap.size := by have := (unhide HB1).size; simp at this; omega
  have hf := fun j => (unhide HB1).frozen (p := ⟨w.heap.size, j, none⟩) (by simp)
  have hblk : w1.heap[w.heap.size]? = some (.cells #[.string { data := #[] }, .int .i64 0, .slice none 0 0, .int .i64 0] 50 (0, 0)) := by rw [(unhide HB1).block w.heap.size (by omega)]; exact blk_new _ _
  have HBLK := hide hblk
  have HM := hide hm
  have HPM := hide hPM
  have hlen : M.length = P.length := by rw [← hPM]; simp
  clear hb1 hok hPM hblk hm
  rcases (unhide HM).opened with ⟨rfl, a, c, rfl⟩ | ⟨g, cap, rfl, hg, hcap, hcm, hc⟩
  · have HL := hide hlen
    clear hlen
    go_wp2
    refine wp_loop_rounds 1 ?_
    rw [rounds_succ]
    go_wp2
    exact bodyPost_ret (v := .tuple #[.agg #[.string { data := #[] }, .int .i64 0, .slice none 0 0, .int .i64 0], .bool false]) (by simp [results, Try.results24, go_sem, hx]) rfl ⟨.inl ⟨by rw [msgIx, unhide HL]; rfl, rfl⟩, set4_below (box_below (unhide HB1)) _ _ _ _⟩
  have HC := hide hc
  have HLEN := hide hlen
  unfold maxLen at hcm
  clear hc hlen
  go_wp2
  go_loop [9] (fun i => ∃ k : Nat, k ≤ P.length ∧ i = .int .i64 k ∧ (∀ j, j < k → decide ((mAt M j).id = id) = false)) (fun i => P.length - (intOf i).toNat)
  case atStart => exact ⟨0, by omega, rfl, by intro j hj; omega⟩
  case round =>
    obtain ⟨k, hk, rfl, hno⟩ := hrel
    have HN := hide hno
    clear hno
    by_cases hlt : k < P.length
    · obtain ⟨c0, c1, c2, c3⟩ := rmcells4 (unhide HC) hg (Below.refl _ _) hlt
      have hsg : RSigsAt w1 (mgAt P k).2 (mgAt P k).1.sigs := (unhide HM).2 _ (mgAt_mem hlt)
      obtain ⟨va, vcap, hva⟩ := ownsRow_form hsg
      rw [hva] at c2 hsg
      have HSG := hide hsg
      have hmk : mAt M k = (mgAt P k).1 := by rw [← unhide HPM, mAt_fst]
      have HMK := hide hmk
      clear hva hsg hmk
      by_cases hid : (mgAt P k).1.id = id
      · have hb3 : ((mgAt P k).1.id.toList == id.toList) = true := by rw [hid]; simp
        have HID := hide hid
        clear hid
        go_wp2
        have hix : msgIx M id = k := findIx_is (unhide HN) (by have := unhide HLEN; omega) (by rw [unhide HMK]; simpa using unhide HID)
        exact bodyPost_ret (v := .tuple #[.agg #[.string (mgAt P k).1.id, .int .i64 (mgAt P k).1.sz, .slice va (mgAt P k).1.sigs.length vcap, .int .i64 (mgAt P k).1.pl], .bool true]) (by simp [results, Try.results24, go_sem, hx]) rfl
          ⟨.inr ⟨k, _, by have := unhide HLEN; omega, hix, by rw [unhide HMK], by rw [unhide HMK]; exact set4_sigs (unhide HSG) (unhide HBLK) (by decide) _ _ _ _⟩, set4_below (box_below (unhide HB1)) _ _ _ _⟩
      · have hb3 : ((mgAt P k).1.id.toList == id.toList) = false := str_ne hid
        have HID := hide hid
        clear hid
        go_wp2
        go_round
        case rel => exact ⟨k + 1, by omega, by go_num, fun j hj => by
            by_cases e : j = k
            · subst e; rw [unhide HMK]; simpa using unhide HID
            · exact unhide HN j (by omega)⟩
        case measure => simp [intOf]; omega
    · go_wp2
      exact bodyPost_ret (v := .tuple #[.agg #[.string { data := #[] }, .int .i64 0, .slice none 0 0, .int .i64 0], .bool false]) (by simp [results, Try.results24, go_sem, hx]) rfl ⟨.inl ⟨findIx_none (fun j hj => unhide HN j (by have := unhide HLEN; omega)), rfl⟩, set4_below (box_below (unhide HB1)) _ _ _ _⟩

end Go.Proofs.Ytoihlnjcgopdlab

namespace Go.Proofs.Ytoihlnjcgopdlab
open Go.RowKit

theorem bytes_put (N n b : Nat) : ((bytesL N n).map (Value.int .u8)).set (b / 8) (.int .u8 (byteOf (N ||| 2 ^ b) (b / 8))) = (bytesL (N ||| 2 ^ b) n).map (Value.int .u8) := by
  apply List.ext_getElem
  · simp [bytesL]
  · intro i h1 h2
    rw [List.getElem_set]
    simp [bytesL] at h2 ⊢
    split
    · rename_i e; subst e; rfl
    · rename_i e; rw [byteOf_other N b i (by omega)]

theorem shl_u8 (b : Nat) (w : World) : (Op.shift BinOp.shl IntKind.u8 1 IntKind.i64 ((b : Int).tmod 8)).run Try.prog w = .ok (.int .u8 (2 ^ (b % 8))) w := by
  have e : (b : Int).tmod 8 = ((b % 8 : Nat) : Int) := by rw [Int.tmod_eq_emod_of_nonneg (by omega)]; omega
  rw [e]
  have hd : b % 8 = 0 ∨ b % 8 = 1 ∨ b % 8 = 2 ∨ b % 8 = 3 ∨ b % 8 = 4 ∨ b % 8 = 5 ∨ b % 8 = 6 ∨ b % 8 = 7 := by omega
  rcases hd with h | h | h | h | h | h | h | h <;> rw [h] <;> rfl
theorem or_u8 (N b : Nat) : bits BinOp.or IntKind.u8 (byteOf N (b / 8) : Int) (2 ^ (b % 8)) = (byteOf (N ||| 2 ^ b) (b / 8) : Int) := by
  have h1 : 2 ^ (b % 8) < 256 := by
    have : 2 ^ (b % 8) ≤ 2 ^ 7 := Nat.pow_le_pow_right (by omega) (by omega)
    have e : (2 : Nat) ^ 7 = 128 := rfl
    omega
  have e : ((2 : Int) ^ (b % 8)) = ((2 ^ (b % 8) : Nat) : Int) := by simp
  rw [e, u8_or_nat _ _ (byteOf_lt N _) h1, byteOf_put]

set_option maxRecDepth 100000 in
set_option maxHeartbeats 1000000 in
theorem rPut_any (B g cap n N b : Nat) (w : World) (h : w.ownsRow B 5 1 (.slice (some ⟨g, 0, none⟩) n cap) n ((bytesL N n).map (Value.int .u8))) (hb : b < 8 * n) (hn : n ≤ 8) :
    Calls Try.prog 57 #[.slice (some ⟨g, 0, none⟩) n cap, .int .i64 b] w fun e w' => e = .returned (.tuple #[]) ∧ w'.ownsRow B 5 1 (.slice (some ⟨g, 0, none⟩) n cap) n ((bytesL (N ||| 2 ^ b) n).map (Value.int .u8)) ∧ w.grownBy w' (some g) := by
  have hq : b / 8 < n := by omega
  have hcell : w.cell? ⟨g, b / 8, none⟩ = some (.int .u8 (byteOf N (b / 8))) := by
    rw [h.cellAt (b / 8) (by omega)]
    simp [bytesL, hq]
  have hfree := h.frozenAt (b / 8)
  have HST := hide (h.stored (b / 8) (.int .u8 (byteOf (N ||| 2 ^ b) (b / 8))))
  have h0 : (0 : Int) ≤ (b : Int) := by omega
  have h1 : IntKind.i64.wrap ((b : Int) / 8) = (b : Int) / 8 := by rw [IntKind.wrap_i64]; omega
  have h3 : (0 : Int) ≤ (b : Int) / 8 := by omega
  have h4 : (b : Int) / 8 < (n : Int) := by omega
  have h5 : ((b : Int) / 8).toNat = b / 8 := by omega
  have hsh := shl_u8 b
  have hor := or_u8 N b
  have HH := hide h
  clear h
  go_enter Try.func57, Try.ntmps57
  go_wp2
  refine wp_region_noPanic ?_
  refine wp_region_held_drew (S := fun _ => True) (by kernel_rfl) trivial (fun hHeld => ?_)
  refine wpAnyH_take (i := 0) (v := ?_) (at_list rfl) (by kernel_rfl) (by kernel_rfl) (by kernel_rfl) (fun _ _ _ h => h) (Or.inl ⟨by rfl, ?_⟩) (by assumption) ?_
  rotate_left
  · intro w hSw; (try dsimp only at hSw); first | (go_simp; done) | (go_simp; with_reducible rfl)
  try simp only [Act.put]
  try simp only [List.setIfInBounds_toArray]
  try simp only [List.set_cons_succ]
  try simp only [List.set_cons_zero]
  refine wpAnyH_take (i := 1) (v := ?_) (at_list rfl) (by kernel_rfl) (by kernel_rfl) (by kernel_rfl) (fun _ _ _ h => h) (Or.inl ⟨by rfl, ?_⟩) (by assumption) ?_
  rotate_left
  · intro w hSw; (try dsimp only at hSw); first | (go_simp; done) | (go_simp; with_reducible rfl)
  try simp only [Act.put]
  try simp only [List.setIfInBounds_toArray]
  try simp only [List.set_cons_succ]
  try simp only [List.set_cons_zero]
  refine wpAnyH_take (i := 2) (v := ?_) (at_list rfl) (by kernel_rfl) (by kernel_rfl) (by kernel_rfl) (fun _ _ _ h => h) (Or.inl ⟨by rfl, ?_⟩) (by assumption) ?_
  rotate_left
  · intro w hSw; (try dsimp only at hSw); first | (go_simp; done) | (go_simp; with_reducible rfl)
  try simp only [Act.put]
  try simp only [List.setIfInBounds_toArray]
  try simp only [List.set_cons_succ]
  try simp only [List.set_cons_zero]
  refine wpAnyH_take (i := 3) (v := ?_) (at_list rfl) (by kernel_rfl) (by kernel_rfl) (by kernel_rfl) (fun _ _ _ h => h) (Or.inl ⟨by rfl, ?_⟩) (by assumption) ?_
  rotate_left
  · intro w hSw; (try dsimp only at hSw); first | (go_simp; done) | (go_simp; with_reducible rfl)
  try simp only [Act.put]
  try simp only [List.setIfInBounds_toArray]
  try simp only [List.set_cons_succ]
  try simp only [List.set_cons_zero]
  refine wpAnyH_take (i := 4) (v := ?_) (at_list rfl) (by kernel_rfl) (by kernel_rfl) (by kernel_rfl) (fun _ _ _ h => h) (Or.inl ⟨by rfl, ?_⟩) (by assumption) ?_
  rotate_left
  · intro w hSw; (try dsimp only at hSw); first | (go_simp; done) | (go_simp; with_reducible rfl)
  try simp only [Act.put]
  try simp only [List.setIfInBounds_toArray]
  try simp only [List.set_cons_succ]
  try simp only [List.set_cons_zero]
  refine wpAnyH_take (i := 5) (v := ?_) (at_list rfl) (by kernel_rfl) (by kernel_rfl) (by kernel_rfl) (fun _ _ _ h => h) (Or.inl ⟨by rfl, ?_⟩) (by assumption) ?_
  rotate_left
  · intro w hSw; (try dsimp only at hSw); first | (go_simp; done) | (go_simp; with_reducible rfl)
  try simp only [Act.put]
  try simp only [List.setIfInBounds_toArray]
  try simp only [List.set_cons_succ]
  try simp only [List.set_cons_zero]
  refine wpAnyH_take (i := 6) (v := ?_) (at_list rfl) (by kernel_rfl) (by kernel_rfl) (by kernel_rfl) (fun _ _ _ h => h) (Or.inl ⟨by rfl, ?_⟩) (by assumption) ?_
  rotate_left
  · intro w hSw; (try dsimp only at hSw); first | (go_simp; done) | (go_simp; with_reducible rfl)
  try simp only [Act.put]
  try simp only [List.setIfInBounds_toArray]
  try simp only [List.set_cons_succ]
  try simp only [List.set_cons_zero]
  refine wpAnyH_take (i := 8) (v := ?_) (at_list rfl) (by kernel_rfl) (by kernel_rfl) (by kernel_rfl) (fun _ _ _ h => h) (Or.inl ⟨by rfl, ?_⟩) (by assumption) ?_
  rotate_left
  · intro w hSw; (try dsimp only at hSw); first | (go_simp; done) | (go_simp; with_reducible rfl)
  try simp only [Act.put]
  try simp only [List.setIfInBounds_toArray]
  try simp only [List.set_cons_succ]
  try simp only [List.set_cons_zero]
  refine wpAnyH_take (i := 9) (v := ?_) (at_list rfl) (by kernel_rfl) (by kernel_rfl) (by kernel_rfl) (fun _ _ _ h => h) (Or.inl ⟨by rfl, ?_⟩) (by assumption) ?_
  rotate_left
  · intro w hSw; (try dsimp only at hSw); first | (go_simp; done) | (go_simp; with_reducible rfl)
  try simp only [Act.put]
  try simp only [List.setIfInBounds_toArray]
  try simp only [List.set_cons_succ]
  try simp only [List.set_cons_zero]
  refine wpAnyH_take (i := 10) (v := ?_) (at_list rfl) (by kernel_rfl) (by kernel_rfl) (by kernel_rfl) (fun _ _ _ h => h) (Or.inl ⟨by rfl, ?_⟩) (by assumption) ?_
  rotate_left
  · intro w hSw; (try dsimp only at hSw); first | (go_simp; done) | (go_simp; with_reducible rfl)
  try simp only [Act.put]
  try simp only [List.setIfInBounds_toArray]
  try simp only [List.set_cons_succ]
  try simp only [List.set_cons_zero]
  refine wpAnyH_ready (rs := [7]) (by kernel_rfl) (by simp) ?_
  refine AllReadyH.cons (at_list rfl) (fun K hK => ?_) AllReadyH.nil
  go_simp
  refine hK.out _ _ (trivial) (fun hHeld => ?_)
  clear hK K
  try simp only [Act.put]
  try simp only [List.setIfInBounds_toArray]
  try simp only [List.set_cons_succ]
  try simp only [List.set_cons_zero]
  refine wpAnyH_take (i := 11) (v := ?_) (at_list rfl) (by kernel_rfl) (by kernel_rfl) (by kernel_rfl) (fun _ _ _ h => h) (Or.inl ⟨by rfl, ?_⟩) (by assumption) ?_
  rotate_left
  · intro w hSw; (try dsimp only at hSw); first | (go_simp; done) | (go_simp; with_reducible rfl)
  try simp only [Act.put]
  try simp only [List.setIfInBounds_toArray]
  try simp only [List.set_cons_succ]
  try simp only [List.set_cons_zero]
  refine wpAnyH_take (i := 12) (v := ?_) (at_list rfl) (by kernel_rfl) (by kernel_rfl) (by kernel_rfl) (fun _ _ _ h => h) (Or.inl ⟨by rfl, ?_⟩) (by assumption) ?_
  rotate_left
  · intro w hSw; (try dsimp only at hSw); first | (go_simp; done) | (go_simp; with_reducible rfl)
  try simp only [Act.put]
  try simp only [List.setIfInBounds_toArray]
  try simp only [List.set_cons_succ]
  try simp only [List.set_cons_zero]
  refine wpAnyH_ready (rs := [13]) (by kernel_rfl) (by simp) ?_
  refine AllReadyH.cons (at_list rfl) (fun K hK => ?_) AllReadyH.nil
  go_simp
  refine hK.out _ _ (trivial) (fun hHeld => ?_)
  clear hK K
  try simp only [Act.put]
  try simp only [List.setIfInBounds_toArray]
  try simp only [List.set_cons_succ]
  try simp only [List.set_cons_zero]
  refine wpAnyH_done (by kernel_rfl) ?_ _
  refine NoPanic.normal ?_
  go_wp2
  go_end0
  refine ⟨rfl, ?_, ?_⟩
  · have := (unhide HST).1
    rw [bytes_put] at this
    exact this
  · have := (unhide HST).2
    exact ⟨this.os, this.tape, this.output, this.size, this.block⟩

set_option maxHeartbeats 400000 in
theorem rChosen_any (id : ByteArray) (sz pl : Int) (v vz : Value) (L : List Sg) (Z : List Int) (w : World) (h : RSigsAt w v L) (hl : L.length ≤ 8) (hz : IntsAt w vz Z) (hlen : Z.length = L.length) :
    Calls Try.prog 54 #[.agg #[.string id, .int .i64 sz, v, .int .i64 pl], vz] w fun e w' => e = .returned (.int .i64 (choiceOf L Z)) ∧ Below w.heap.size w w' := by
  obtain ⟨a, cap, rfl⟩ := ownsRow_form h
  have HH := hide h
  have HZ := hide hz
  obtain ⟨za, zcap, rfl, hz1, hz2, hz3⟩ := hz
  have HN := hide hz2
  have HC := hide hz3
  clear h hz2 hz3
  have hle1 : Z.length ≤ L.length := by omega
  have hle2 : L.length ≤ Z.length := by omega
  clear hlen
  go_enter Try.func54, Try.ntmps54
  go_wp2_with fail
  refine (rMux_any id sz pl _ L _ (ownsRow_below (unhide HH) ((Below.refl _ _).alloc (Nat.le_refl _) _)) hl).mono ?_
  rintro e w2 ⟨rfl, hb2⟩
  have HB2 := hide (((Below.refl _ _).alloc (Nat.le_refl _) _).trans (hb2.mono (by simp)))
  clear hb2
  rcases mux_range L with hmx | ⟨x, hx, hmx, _⟩
  · have HCH := hide (show choiceOf L Z = 0 by rw [choiceOf, hmx]; rfl)
    rw [hmx]
    clear hmx
    go_wp2
    go_ret
    exact ⟨ret_int (by rw [unhide HCH]), unhide HB2⟩
  · have hchx : choiceOf L Z = zAt Z x := by rw [choiceOf, hmx, if_pos (by omega), Int.toNat_natCast]
    have HCH := hide hchx
    rw [hmx]
    have hi1 : (x : Int) < (Z.length : Int) := by omega
    cases za with
    | none => have := unhide HN rfl; omega
    | some xa =>
      have hzc := ints_cell (unhide HC xa rfl) (unhide HB2) (show x < Z.length by omega)
      clear hchx hmx
      go_wp2
      go_ret
      exact ⟨ret_int (by rw [unhide HCH]), unhide HB2⟩

end Go.Proofs.Ytoihlnjcgopdlab

namespace Go.Proofs.Ytoihlnjcgopdlab
open Go.RowKit

theorem pk_eta' (x : ByteArray × Int × Int) {a : ByteArray} {b c : Int} (h : x = (a, b, c)) : x.1 = a ∧ x.2.1 = b ∧ x.2.2 = c := by rw [h]; exact ⟨rfl, rfl, rfl⟩

theorem bytesL_zero (L : List Sg) (Z : List Int) (c : Int) (n : Nat) : (bytesL (bitsTo L Z c 0) n).map (Value.int .u8) = List.replicate n (.int .u8 0) := by
  apply List.ext_getElem
  · simp [bytesL]
  · intro i h1 h2; simp [bytesL, bitsTo, byteOf]

set_option maxRecDepth 100000 in
set_option maxHeartbeats 4000000 in
theorem rPack_any (s id : ByteArray) (vz : Value) (Z : List Int) (w : World) (hs : s.size ≤ maxLen) (hz : IntsAt w vz Z) :
    Calls Try.prog 29 #[.string s, .string id, vz] w fun e w' => e = .returned (.tuple #[.string (pk s id Z).1, .int .i64 (pk s id Z).2.1, .int .i64 (pk s id Z).2.2]) ∧ Below w.heap.size w w' := by
  obtain ⟨i0, hinf, hz0, hzz1, hzz2⟩ := info_parts Try.infoU8
  have HINF := hide hinf
  have HZ0 := hide hz0
  have HZ1 := hide hzz1
  have HZB := hide hzz2
  clear hinf hz0 hzz1 hzz2
  have HZZ := hide hz
  obtain ⟨za, zcap, rfl, hz1, hz2, hz3⟩ := hz
  have HZ2 := hide hz2
  have HZ3 := hide hz3
  clear hz2 hz3
  go_enter Try.func29, Try.ntmps29
  go_wp2_with fail
  refine (rCheck_any s _ hs).mono ?_
  rintro e w0 ⟨rfl, hb0⟩
  have HB0 := hide hb0
  clear hb0
  by_cases hzc : chkE s ≠ 0
  · have HP := hide (pk_eta' _ (pk_bad (id := id) (Z := Z) hzc))
    have hz2 : (chkE s != 0) = true := by simpa using hzc
    clear hzc
    go_wp2
    go_ret3
    exact ⟨by rw [(unhide HP).1, (unhide HP).2.1, (unhide HP).2.2]; rfl, unhide HB0⟩
  have hzc0 : chkE s = 0 := by omega
  have hz2 : (chkE s != 0) = false := by rw [hzc0]; rfl
  have hl320 : ¬ 320 < s.size := by
    intro hl
    rw [(chk_long hl).1] at hzc0; omega
  obtain ⟨M, hpd⟩ : ∃ M, pDb s 4 0 = .inr M := by
    cases hp : pDb s 4 0 with
    | inl p => rw [(chk_text hl320 hp).1] at hzc0; omega
    | inr M => exact ⟨M, rfl⟩
  have HZC := hide hzc0
  have HPD := hide hpd
  clear hzc hzc0 hpd
  go_wp2_with fail
  refine (rFind_any s id M _ (by omega) (unhide HPD)).mono ?_
  rintro e w1 ⟨hout, hb1⟩
  have HB1 := hide ((unhide HB0).trans (hb1.mono (unhide HB0).size))
  clear hb1
  rcases hout with ⟨hix, rfl⟩ | ⟨k, sv, hk, hix, rfl, hsv⟩
  · have HP := hide (pk_eta' _ (pk_id (Z := Z) (unhide HZC) (unhide HPD) hix))
    clear hix
    go_wp2
    go_ret3
    exact ⟨by rw [(unhide HP).1, (unhide HP).2.1, (unhide HP).2.2]; rfl, (unhide HB1).alloc (unhide HB1).size _⟩
  obtain ⟨m, hm⟩ : ∃ m, m = mAt M k := ⟨_, rfl⟩
  have HPK := hide (pk_msg (Z := Z) (unhide HZC) (unhide HPD) hix)
  have HG := hide (good_of (unhide HPD) hk).2
  have hmo := (good_of (unhide HPD) hk).1
  have HAF := hide (sound_fits (unhide HZC) (unhide HPD) hk)
  have HWI := hide (sound_within (unhide HZC) (unhide HPD) hk)
  rw [← hm] at hsv hmo HPK HG HAF HWI
  rw [← hm]
  have HMO := hide hmo
  have hlen8 := hmo.len
  have hsz0 := hmo.sz0
  have hsz1 := hmo.sz1
  have HSN := hide (show ((m.sz.toNat : Nat) : Int) = m.sz from Int.toNat_of_nonneg hmo.sz0)
  obtain ⟨va, vcap, rfl⟩ := ownsRow_form hsv
  have HSV := hide hsv
  clear hix hsv hmo hm hk hl320 hz2
  by_cases hln : Z.length = m.sigs.length
  · have hl2 : ((Z.length : Int) != (m.sigs.length : Int)) = false := by rw [hln]; simp
    have HLN := hide hln
    have hle1 : Z.length ≤ m.sigs.length := by omega
    have hle2 : m.sigs.length ≤ Z.length := by omega
    clear hln
    have HC : Hid (IntsAt w1 (.slice za Z.length zcap) Z) := hide ((unhide HZZ).below (unhide HB1))
    go_wp2_with fail
    refine (rChosen_any m.id m.sz m.pl _ _ m.sigs Z _ (ownsRow_below (unhide HSV) ((Below.refl _ _).alloc (Nat.le_refl _) _)) hlen8 ((unhide HC).below ((Below.refl _ _).alloc (Nat.le_refl _) _)) (unhide HLN)).mono ?_
    rintro e w2 ⟨rfl, hb2⟩
    obtain ⟨c, HCC⟩ : ∃ c, Hid (c = choiceOf m.sigs Z) := ⟨_, hide rfl⟩
    rw [← unhide HCC]
    rw [pkMsg, ← unhide HCC] at HPK
    have HP9 : Hid (∀ u : Int, firstUn m.sigs Z c = u → 0 ≤ u → pk s id Z = (noBytes, 9, u)) := hide (fun u hu h0 => by rw [unhide HPK, if_neg (by rw [unhide HLN]; simp), hu, if_pos h0])
    have HP0 : Hid (firstUn m.sigs Z c < 0 → pk s id Z = (payB (bitsTo m.sigs Z c m.sigs.length) m.sz.toNat, 0, 0)) := hide (fun h0 => by rw [unhide HPK, if_neg (by rw [unhide HLN]; simp), if_neg (by omega)])
    have HB2 : Hid (Below (w1.heap.size + 1) (w1.alloc (.cells #[.string m.id, .int .i64 m.sz, .slice va m.sigs.length vcap, .int .i64 m.pl] 50)) w2) := hide (hb2.mono (by simp))
    have hbox := fun (wx : World) (h : Below (w1.heap.size + 1) (w1.alloc (.cells #[.string m.id, .int .i64 m.sz, .slice va m.sigs.length vcap, .int .i64 m.pl] 50)) wx) => box_cell h
    have HSG := HSV
    clear hb2 HPK
    have hbw := hbox _ (unhide HB2)
    go_wp2
    clear hbw
    go_loopw [14, 15] (fun i _ wr => ∃ k : Nat, k ≤ m.sigs.length ∧ i = .int .i64 k ∧ (∀ j, j < k → unfit m.sigs Z c j = false) ∧ Below (w1.heap.size + 1) (w1.alloc (.cells #[.string m.id, .int .i64 m.sz, .slice va m.sigs.length vcap, .int .i64 m.pl] 50)) wr) (fun i _ _ => m.sigs.length - (intOf i).toNat)
    case atStart => exact ⟨0, by omega, rfl, by intro j hj; omega, unhide HB2⟩
    case round =>
      obtain ⟨k, hk, rfl, hno, hb⟩ := hrel
      have HN := hide hno
      have hbw := hbox _ hb
      clear hno
      by_cases hlt : k < m.sigs.length
      · obtain ⟨ok, r0, r1⟩ := (unhide HG).2 k hlt
        have OK := hide ok
        have hi0 : (0 : Int) ≤ (k : Int) := by omega
        have hi1 : (k : Int) < (m.sigs.length : Int) := by omega
        have hi2 : (k : Int) < (Z.length : Int) := by omega
        have HB := hide hb
        clear ok hb
        go_wp2_with fail
        refine (rActive_any m.id m.sz m.pl _ m.sigs k c _ (ownsRow_below (unhide HSV) (box_below (unhide HB))) hlen8 hlt r0 r1).mono ?_
        rintro e w3 ⟨rfl, hb3⟩
        have hb3' := box_next (unhide HB) hb3
        clear hb3 hbw
        cases hac : activeB (sgAt m.sigs k).rl c with
        | false =>
          go_wp2
          refine wp_region_noPanic ?_
          refine wp_region_held_drew (S := fun w' => Below (w1.heap.size + 1) (w1.alloc (.cells #[.string m.id, .int .i64 m.sz, .slice va m.sigs.length vcap, .int .i64 m.pl] 50)) w') (by kernel_rfl) hb3'.drew (fun hHeld => ?_)
          refine wpAnyH_take (i := 0) (v := ?_) (at_list rfl) (by kernel_rfl) (by kernel_rfl) (by kernel_rfl) (fun _ _ _ h => h) (Or.inl ⟨by rfl, ?_⟩) (by assumption) ?_
          rotate_left
          · intro w hSw; (try dsimp only at hSw); first | (go_simp; done) | (go_simp; with_reducible rfl)
          try simp only [Act.put]
          try simp only [List.setIfInBounds_toArray]
          try simp only [List.set_cons_succ]
          try simp only [List.set_cons_zero]
          refine wpAnyH_take (i := 1) (v := ?_) (at_list rfl) (by kernel_rfl) (by kernel_rfl) (by kernel_rfl) (fun _ _ _ h => h) (Or.inl ⟨by rfl, ?_⟩) (by assumption) ?_
          rotate_left
          · intro w hSw; (try dsimp only at hSw); first | (go_simp; done) | (go_simp; with_reducible rfl)
          try simp only [Act.put]
          try simp only [List.setIfInBounds_toArray]
          try simp only [List.set_cons_succ]
          try simp only [List.set_cons_zero]
          refine wpAnyH_take (i := 2) (v := undef) (at_list rfl) (by kernel_rfl) (by kernel_rfl) (by kernel_rfl) (fun _ _ _ h => h) (Or.inr ⟨by rfl, rfl⟩) (by assumption) ?_
          try simp only [Act.put]
          try simp only [List.setIfInBounds_toArray]
          try simp only [List.set_cons_succ]
          try simp only [List.set_cons_zero]
          refine wpAnyH_take (i := 3) (v := undef) (at_list rfl) (by kernel_rfl) (by kernel_rfl) (by kernel_rfl) (fun _ _ _ h => h) (Or.inr ⟨by rfl, rfl⟩) (by assumption) ?_
          try simp only [Act.put]
          try simp only [List.setIfInBounds_toArray]
          try simp only [List.set_cons_succ]
          try simp only [List.set_cons_zero]
          refine wpAnyH_take (i := 4) (v := undef) (at_list rfl) (by kernel_rfl) (by kernel_rfl) (by kernel_rfl) (fun _ _ _ h => h) (Or.inr ⟨by rfl, rfl⟩) (by assumption) ?_
          try simp only [Act.put]
          try simp only [List.setIfInBounds_toArray]
          try simp only [List.set_cons_succ]
          try simp only [List.set_cons_zero]
          refine wpAnyH_take (i := 5) (v := undef) (at_list rfl) (by kernel_rfl) (by kernel_rfl) (by kernel_rfl) (fun _ _ _ h => h) (Or.inr ⟨by rfl, rfl⟩) (by assumption) ?_
          try simp only [Act.put]
          try simp only [List.setIfInBounds_toArray]
          try simp only [List.set_cons_succ]
          try simp only [List.set_cons_zero]
          refine wpAnyH_take (i := 6) (v := undef) (at_list rfl) (by kernel_rfl) (by kernel_rfl) (by kernel_rfl) (fun _ _ _ h => h) (Or.inr ⟨by rfl, rfl⟩) (by assumption) ?_
          try simp only [Act.put]
          try simp only [List.setIfInBounds_toArray]
          try simp only [List.set_cons_succ]
          try simp only [List.set_cons_zero]
          refine wpAnyH_take (i := 7) (v := undef) (at_list rfl) (by kernel_rfl) (by kernel_rfl) (by kernel_rfl) (fun _ _ _ h => h) (Or.inr ⟨by rfl, rfl⟩) (by assumption) ?_
          try simp only [Act.put]
          try simp only [List.setIfInBounds_toArray]
          try simp only [List.set_cons_succ]
          try simp only [List.set_cons_zero]
          refine wpAnyH_take (i := 8) (v := undef) (at_list rfl) (by kernel_rfl) (by kernel_rfl) (by kernel_rfl) (fun _ _ _ h => h) (Or.inr ⟨by rfl, rfl⟩) (by assumption) ?_
          try simp only [Act.put]
          try simp only [List.setIfInBounds_toArray]
          try simp only [List.set_cons_succ]
          try simp only [List.set_cons_zero]
          refine wpAnyH_take (i := 9) (v := undef) (at_list rfl) (by kernel_rfl) (by kernel_rfl) (by kernel_rfl) (fun _ _ _ h => h) (Or.inr ⟨by rfl, rfl⟩) (by assumption) ?_
          try simp only [Act.put]
          try simp only [List.setIfInBounds_toArray]
          try simp only [List.set_cons_succ]
          try simp only [List.set_cons_zero]
          refine wpAnyH_take (i := 10) (v := undef) (at_list rfl) (by kernel_rfl) (by kernel_rfl) (by kernel_rfl) (fun _ _ _ h => h) (Or.inr ⟨by rfl, rfl⟩) (by assumption) ?_
          try simp only [Act.put]
          try simp only [List.setIfInBounds_toArray]
          try simp only [List.set_cons_succ]
          try simp only [List.set_cons_zero]
          refine wpAnyH_take (i := 11) (v := undef) (at_list rfl) (by kernel_rfl) (by kernel_rfl) (by kernel_rfl) (fun _ _ _ h => h) (Or.inr ⟨by rfl, rfl⟩) (by assumption) ?_
          try simp only [Act.put]
          try simp only [List.setIfInBounds_toArray]
          try simp only [List.set_cons_succ]
          try simp only [List.set_cons_zero]
          refine wpAnyH_take (i := 12) (v := undef) (at_list rfl) (by kernel_rfl) (by kernel_rfl) (by kernel_rfl) (fun _ _ _ h => h) (Or.inr ⟨by rfl, rfl⟩) (by assumption) ?_
          try simp only [Act.put]
          try simp only [List.setIfInBounds_toArray]
          try simp only [List.set_cons_succ]
          try simp only [List.set_cons_zero]
          refine wpAnyH_take (i := 13) (v := undef) (at_list rfl) (by kernel_rfl) (by kernel_rfl) (by kernel_rfl) (fun _ _ _ h => h) (Or.inr ⟨by rfl, rfl⟩) (by assumption) ?_
          try simp only [Act.put]
          try simp only [List.setIfInBounds_toArray]
          try simp only [List.set_cons_succ]
          try simp only [List.set_cons_zero]
          refine wpAnyH_take (i := 14) (v := undef) (at_list rfl) (by kernel_rfl) (by kernel_rfl) (by kernel_rfl) (fun _ _ _ h => h) (Or.inr ⟨by rfl, rfl⟩) (by assumption) ?_
          try simp only [Act.put]
          try simp only [List.setIfInBounds_toArray]
          try simp only [List.set_cons_succ]
          try simp only [List.set_cons_zero]
          refine wpAnyH_take (i := 15) (v := undef) (at_list rfl) (by kernel_rfl) (by kernel_rfl) (by kernel_rfl) (fun _ _ _ h => h) (Or.inr ⟨by rfl, rfl⟩) (by assumption) ?_
          try simp only [Act.put]
          try simp only [List.setIfInBounds_toArray]
          try simp only [List.set_cons_succ]
          try simp only [List.set_cons_zero]
          refine wpAnyH_take (i := 16) (v := undef) (at_list rfl) (by kernel_rfl) (by kernel_rfl) (by kernel_rfl) (fun _ _ _ h => h) (Or.inr ⟨by rfl, rfl⟩) (by assumption) ?_
          try simp only [Act.put]
          try simp only [List.setIfInBounds_toArray]
          try simp only [List.set_cons_succ]
          try simp only [List.set_cons_zero]
          refine wpAnyH_take (i := 17) (v := undef) (at_list rfl) (by kernel_rfl) (by kernel_rfl) (by kernel_rfl) (fun _ _ _ h => h) (Or.inr ⟨by rfl, rfl⟩) (by assumption) ?_
          try simp only [Act.put]
          try simp only [List.setIfInBounds_toArray]
          try simp only [List.set_cons_succ]
          try simp only [List.set_cons_zero]
          refine wpAnyH_take (i := 18) (v := undef) (at_list rfl) (by kernel_rfl) (by kernel_rfl) (by kernel_rfl) (fun _ _ _ h => h) (Or.inr ⟨by rfl, rfl⟩) (by assumption) ?_
          try simp only [Act.put]
          try simp only [List.setIfInBounds_toArray]
          try simp only [List.set_cons_succ]
          try simp only [List.set_cons_zero]
          refine wpAnyH_take (i := 19) (v := undef) (at_list rfl) (by kernel_rfl) (by kernel_rfl) (by kernel_rfl) (fun _ _ _ h => h) (Or.inr ⟨by rfl, rfl⟩) (by assumption) ?_
          try simp only [Act.put]
          try simp only [List.setIfInBounds_toArray]
          try simp only [List.set_cons_succ]
          try simp only [List.set_cons_zero]
          refine wpAnyH_take (i := 20) (v := ?_) (at_list rfl) (by kernel_rfl) (by kernel_rfl) (by kernel_rfl) (fun _ _ _ h => h) (Or.inl ⟨by rfl, ?_⟩) (by assumption) ?_
          rotate_left
          · intro w hSw; (try dsimp only at hSw); first | (go_simp; done) | (go_simp; with_reducible rfl)
          try simp only [Act.put]
          try simp only [List.setIfInBounds_toArray]
          try simp only [List.set_cons_succ]
          try simp only [List.set_cons_zero]
          refine wpAnyH_done (by kernel_rfl) ?_ _
          refine NoPanic.normal ?_
          go_wp2
          go_roundw
          case rel => exact ⟨k + 1, by omega, by go_num, fun j hj => by
              by_cases e : j = k
              · subst e; rw [unfit, hac]; rfl
              · exact unhide HN j (by omega), by assumption⟩
          case measure => simp [intOf]; omega
        | true =>
          rcases (unhide HSG).opened with ⟨hnil, _⟩ | ⟨g2, cap2, hv2, hg2, hcap2, hcm2, hc2⟩
          · rw [hnil] at hlt; simp at hlt
          cases hv2
          cases za with
          | none => have := unhide HZ2 rfl; omega
          | some xa =>
            have HC2 := hide hc2
            have HX := hide (unhide HZ3 xa rfl)
            clear hc2
            have cn := fun (wx : World) (h : Below (w1.heap.size + 1) (w1.alloc (.cells #[.string m.id, .int .i64 m.sz, .slice (some ⟨g2, 0, none⟩) m.sigs.length vcap, .int .i64 m.pl] 50)) wx) => rcells7 (k := k) (unhide HC2) hg2 (box_below h) hlt
            have zn := fun (wx : World) (h : Below (w1.heap.size + 1) (w1.alloc (.cells #[.string m.id, .int .i64 m.sz, .slice (some ⟨g2, 0, none⟩) m.sigs.length vcap, .int .i64 m.pl] 50)) wx) => ints_cell (unhide HX) ((unhide HB1).trans ((box_below h).mono (unhide HB1).size)) (show k < Z.length by omega)
            cases hfi : fitsB (sgAt m.sigs k).kd (sgAt m.sigs k).ln (zAt Z k) with
            | true =>
              go_wp2
              refine wp_region_noPanic ?_
              refine wp_region_held_drew (S := fun w' => Below (w1.heap.size + 1) (w1.alloc (.cells #[.string m.id, .int .i64 m.sz, .slice (some ⟨g2, 0, none⟩) m.sigs.length vcap, .int .i64 m.pl] 50)) w') (by kernel_rfl) hb3'.drew (fun hHeld => ?_)
              refine wpAnyH_take (i := 0) (v := ?_) (at_list rfl) (by kernel_rfl) (by kernel_rfl) (by kernel_rfl) (fun _ _ _ h => h) (Or.inl ⟨by rfl, ?_⟩) (by assumption) ?_
              rotate_left
              · intro w hSw; (try dsimp only at hSw); first | (go_simp; done) | (go_simp; with_reducible rfl)
              try simp only [Act.put]
              try simp only [List.setIfInBounds_toArray]
              try simp only [List.set_cons_succ]
              try simp only [List.set_cons_zero]
              refine wpAnyH_take (i := 1) (v := ?_) (at_list rfl) (by kernel_rfl) (by kernel_rfl) (by kernel_rfl) (fun _ _ _ h => h) (Or.inl ⟨by rfl, ?_⟩) (by assumption) ?_
              rotate_left
              · intro w hSw; (try dsimp only at hSw); first | (go_simp; done) | (go_simp; with_reducible rfl)
              try simp only [Act.put]
              try simp only [List.setIfInBounds_toArray]
              try simp only [List.set_cons_succ]
              try simp only [List.set_cons_zero]
              refine wpAnyH_take (i := 2) (v := ?_) (at_list rfl) (by kernel_rfl) (by kernel_rfl) (by kernel_rfl) (fun _ _ _ h => h) (Or.inl ⟨by rfl, ?_⟩) (by assumption) ?_
              rotate_left
              · intro w hSw; (try dsimp only at hSw); first | (go_simp; done) | (go_simp; with_reducible rfl)
              try simp only [Act.put]
              try simp only [List.setIfInBounds_toArray]
              try simp only [List.set_cons_succ]
              try simp only [List.set_cons_zero]
              refine wpAnyH_take (i := 3) (v := ?_) (at_list rfl) (by kernel_rfl) (by kernel_rfl) (by kernel_rfl) (fun _ _ _ h => h) (Or.inl ⟨by rfl, ?_⟩) (by assumption) ?_
              rotate_left
              · intro w hSw; (try dsimp only at hSw); first | (go_simp; done) | (go_simp; with_reducible rfl)
              try simp only [Act.put]
              try simp only [List.setIfInBounds_toArray]
              try simp only [List.set_cons_succ]
              try simp only [List.set_cons_zero]
              refine wpAnyH_take (i := 4) (v := ?_) (at_list rfl) (by kernel_rfl) (by kernel_rfl) (by kernel_rfl) (fun _ _ _ h => h) (Or.inl ⟨by rfl, ?_⟩) (by assumption) ?_
              rotate_left
              · intro w hSw; (try dsimp only at hSw); first | (go_simp; done) | (go_simp; with_reducible rfl)
              try simp only [Act.put]
              try simp only [List.setIfInBounds_toArray]
              try simp only [List.set_cons_succ]
              try simp only [List.set_cons_zero]
              refine wpAnyH_take (i := 5) (v := ?_) (at_list rfl) (by kernel_rfl) (by kernel_rfl) (by kernel_rfl) (fun _ _ _ h => h) (Or.inl ⟨by rfl, ?_⟩) (by assumption) ?_
              rotate_left
              · intro w hSw; (try dsimp only at hSw); first | (go_simp; done) | (go_simp; with_reducible rfl)
              try simp only [Act.put]
              try simp only [List.setIfInBounds_toArray]
              try simp only [List.set_cons_succ]
              try simp only [List.set_cons_zero]
              refine wpAnyH_take (i := 6) (v := ?_) (at_list rfl) (by kernel_rfl) (by kernel_rfl) (by kernel_rfl) (fun _ _ _ h => h) (Or.inl ⟨by rfl, ?_⟩) (by assumption) ?_
              rotate_left
              · intro w hSw; (try dsimp only at hSw); first | (go_simp; done) | (go_simp; with_reducible rfl)
              try simp only [Act.put]
              try simp only [List.setIfInBounds_toArray]
              try simp only [List.set_cons_succ]
              try simp only [List.set_cons_zero]
              refine wpAnyH_take (i := 7) (v := ?_) (at_list rfl) (by kernel_rfl) (by kernel_rfl) (by kernel_rfl) (fun _ _ _ h => h) (Or.inl ⟨by rfl, ?_⟩) (by assumption) ?_
              rotate_left
              · intro w hSw; (try dsimp only at hSw); first | (go_simp; done) | (go_simp; with_reducible rfl)
              try simp only [Act.put]
              try simp only [List.setIfInBounds_toArray]
              try simp only [List.set_cons_succ]
              try simp only [List.set_cons_zero]
              refine wpAnyH_take (i := 8) (v := ?_) (at_list rfl) (by kernel_rfl) (by kernel_rfl) (by kernel_rfl) (fun _ _ _ h => h) (Or.inl ⟨by rfl, ?_⟩) (by assumption) ?_
              rotate_left
              · intro w hSw; (try dsimp only at hSw); first | (go_simp; done) | (go_simp; with_reducible rfl)
              try simp only [Act.put]
              try simp only [List.setIfInBounds_toArray]
              try simp only [List.set_cons_succ]
              try simp only [List.set_cons_zero]
              refine wpAnyH_take (i := 9) (v := ?_) (at_list rfl) (by kernel_rfl) (by kernel_rfl) (by kernel_rfl) (fun _ _ _ h => h) (Or.inl ⟨by rfl, ?_⟩) (by assumption) ?_
              rotate_left
              · intro w hSw; (try dsimp only at hSw); first | (go_simp; done) | (go_simp; with_reducible rfl)
              try simp only [Act.put]
              try simp only [List.setIfInBounds_toArray]
              try simp only [List.set_cons_succ]
              try simp only [List.set_cons_zero]
              refine wpAnyH_take (i := 10) (v := ?_) (at_list rfl) (by kernel_rfl) (by kernel_rfl) (by kernel_rfl) (fun _ _ _ h => h) (Or.inl ⟨by rfl, ?_⟩) (by assumption) ?_
              rotate_left
              · intro w hSw; (try dsimp only at hSw); first | (go_simp; done) | (go_simp; with_reducible rfl)
              try simp only [Act.put]
              try simp only [List.setIfInBounds_toArray]
              try simp only [List.set_cons_succ]
              try simp only [List.set_cons_zero]
              refine wpAnyH_take (i := 11) (v := ?_) (at_list rfl) (by kernel_rfl) (by kernel_rfl) (by kernel_rfl) (fun _ _ _ h => h) (Or.inl ⟨by rfl, ?_⟩) (by assumption) ?_
              rotate_left
              · intro w hSw; (try dsimp only at hSw); first | (go_simp; done) | (go_simp; with_reducible rfl)
              try simp only [Act.put]
              try simp only [List.setIfInBounds_toArray]
              try simp only [List.set_cons_succ]
              try simp only [List.set_cons_zero]
              refine wpAnyH_take (i := 12) (v := ?_) (at_list rfl) (by kernel_rfl) (by kernel_rfl) (by kernel_rfl) (fun _ _ _ h => h) (Or.inl ⟨by rfl, ?_⟩) (by assumption) ?_
              rotate_left
              · intro w hSw; (try dsimp only at hSw); first | (go_simp; done) | (go_simp; with_reducible rfl)
              try simp only [Act.put]
              try simp only [List.setIfInBounds_toArray]
              try simp only [List.set_cons_succ]
              try simp only [List.set_cons_zero]
              refine wpAnyH_take (i := 13) (v := ?_) (at_list rfl) (by kernel_rfl) (by kernel_rfl) (by kernel_rfl) (fun _ _ _ h => h) (Or.inl ⟨by rfl, ?_⟩) (by assumption) ?_
              rotate_left
              · intro w hSw; (try dsimp only at hSw); first | (go_simp; done) | (go_simp; with_reducible rfl)
              try simp only [Act.put]
              try simp only [List.setIfInBounds_toArray]
              try simp only [List.set_cons_succ]
              try simp only [List.set_cons_zero]
              refine wpAnyH_take (i := 14) (v := ?_) (at_list rfl) (by kernel_rfl) (by kernel_rfl) (by kernel_rfl) (fun _ _ _ h => h) (Or.inl ⟨by rfl, ?_⟩) (by assumption) ?_
              rotate_left
              · intro w hSw; (try dsimp only at hSw); first | (go_simp; done) | (go_simp; with_reducible rfl)
              try simp only [Act.put]
              try simp only [List.setIfInBounds_toArray]
              try simp only [List.set_cons_succ]
              try simp only [List.set_cons_zero]
              refine wpAnyH_take (i := 15) (v := ?_) (at_list rfl) (by kernel_rfl) (by kernel_rfl) (by kernel_rfl) (fun _ _ _ h => h) (Or.inl ⟨by rfl, ?_⟩) (by assumption) ?_
              rotate_left
              · intro w hSw; (try dsimp only at hSw); first | (go_simp; done) | (go_simp; with_reducible rfl)
              try simp only [Act.put]
              try simp only [List.setIfInBounds_toArray]
              try simp only [List.set_cons_succ]
              try simp only [List.set_cons_zero]
              refine wpAnyH_take (i := 16) (v := ?_) (at_list rfl) (by kernel_rfl) (by kernel_rfl) (by kernel_rfl) (fun _ _ _ h => h) (Or.inl ⟨by rfl, ?_⟩) (by assumption) ?_
              rotate_left
              · intro w hSw; (try dsimp only at hSw); first | (go_simp; done) | (go_simp; with_reducible rfl)
              try simp only [Act.put]
              try simp only [List.setIfInBounds_toArray]
              try simp only [List.set_cons_succ]
              try simp only [List.set_cons_zero]
              refine wpAnyH_take (i := 17) (v := ?_) (at_list rfl) (by kernel_rfl) (by kernel_rfl) (by kernel_rfl) (fun _ _ _ h => h) (Or.inl ⟨by rfl, ?_⟩) (by assumption) ?_
              rotate_left
              · intro w hSw; (try dsimp only at hSw); first | (go_simp; done) | (go_simp; with_reducible rfl)
              try simp only [Act.put]
              try simp only [List.setIfInBounds_toArray]
              try simp only [List.set_cons_succ]
              try simp only [List.set_cons_zero]
              refine wpAnyH_ready (rs := [18]) (by kernel_rfl) (by simp) ?_
              refine AllReadyH.cons (at_list rfl) (fun K hK => ?_) AllReadyH.nil
              go_simp
              refine (rFits_any (zAt Z k) (sgAt m.sigs k).ln (sgAt m.sigs k).kd _ (unhide OK).ln0 (unhide OK).ln1 (unhide OK).kd).mono ?_; rintro e w4 ⟨rfl, rfl⟩; dsimp only
              refine hK.out _ _ (hHeld) (fun hHeld => ?_)
              clear hK K
              try simp only [Act.put]
              try simp only [List.setIfInBounds_toArray]
              try simp only [List.set_cons_succ]
              try simp only [List.set_cons_zero]
              refine wpAnyH_take (i := 19) (v := ?_) (at_list rfl) (by kernel_rfl) (by kernel_rfl) (by kernel_rfl) (fun _ _ _ h => h) (Or.inl ⟨by rfl, ?_⟩) (by assumption) ?_
              rotate_left
              · intro w hSw; (try dsimp only at hSw); first | (go_simp; done) | (go_simp; with_reducible rfl)
              try simp only [Act.put]
              try simp only [List.setIfInBounds_toArray]
              try simp only [List.set_cons_succ]
              try simp only [List.set_cons_zero]
              refine wpAnyH_take (i := 20) (v := ?_) (at_list rfl) (by kernel_rfl) (by kernel_rfl) (by kernel_rfl) (fun _ _ _ h => h) (Or.inl ⟨by rfl, ?_⟩) (by assumption) ?_
              rotate_left
              · intro w hSw; (try dsimp only at hSw); first | (go_simp; done) | (go_simp; with_reducible rfl)
              try simp only [Act.put]
              try simp only [List.setIfInBounds_toArray]
              try simp only [List.set_cons_succ]
              try simp only [List.set_cons_zero]
              refine wpAnyH_done (by kernel_rfl) ?_ _
              refine NoPanic.normal ?_
              clear cn zn
              go_wp2
              go_roundw
              case rel => exact ⟨k + 1, by omega, by go_num, fun j hj => by
                  by_cases e : j = k
                  · subst e; rw [unfit, hfi]; simp
                  · exact unhide HN j (by omega), by assumption⟩
              case measure => simp [intOf]; omega
            | false =>
              go_wp2
              refine wp_region_noPanic ?_
              refine wp_region_held_drew (S := fun w' => Below (w1.heap.size + 1) (w1.alloc (.cells #[.string m.id, .int .i64 m.sz, .slice (some ⟨g2, 0, none⟩) m.sigs.length vcap, .int .i64 m.pl] 50)) w') (by kernel_rfl) hb3'.drew (fun hHeld => ?_)
              refine wpAnyH_take (i := 0) (v := ?_) (at_list rfl) (by kernel_rfl) (by kernel_rfl) (by kernel_rfl) (fun _ _ _ h => h) (Or.inl ⟨by rfl, ?_⟩) (by assumption) ?_
              rotate_left
              · intro w hSw; (try dsimp only at hSw); first | (go_simp; done) | (go_simp; with_reducible rfl)
              try simp only [Act.put]
              try simp only [List.setIfInBounds_toArray]
              try simp only [List.set_cons_succ]
              try simp only [List.set_cons_zero]
              refine wpAnyH_take (i := 1) (v := ?_) (at_list rfl) (by kernel_rfl) (by kernel_rfl) (by kernel_rfl) (fun _ _ _ h => h) (Or.inl ⟨by rfl, ?_⟩) (by assumption) ?_
              rotate_left
              · intro w hSw; (try dsimp only at hSw); first | (go_simp; done) | (go_simp; with_reducible rfl)
              try simp only [Act.put]
              try simp only [List.setIfInBounds_toArray]
              try simp only [List.set_cons_succ]
              try simp only [List.set_cons_zero]
              refine wpAnyH_take (i := 2) (v := ?_) (at_list rfl) (by kernel_rfl) (by kernel_rfl) (by kernel_rfl) (fun _ _ _ h => h) (Or.inl ⟨by rfl, ?_⟩) (by assumption) ?_
              rotate_left
              · intro w hSw; (try dsimp only at hSw); first | (go_simp; done) | (go_simp; with_reducible rfl)
              try simp only [Act.put]
              try simp only [List.setIfInBounds_toArray]
              try simp only [List.set_cons_succ]
              try simp only [List.set_cons_zero]
              refine wpAnyH_take (i := 3) (v := ?_) (at_list rfl) (by kernel_rfl) (by kernel_rfl) (by kernel_rfl) (fun _ _ _ h => h) (Or.inl ⟨by rfl, ?_⟩) (by assumption) ?_
              rotate_left
              · intro w hSw; (try dsimp only at hSw); first | (go_simp; done) | (go_simp; with_reducible rfl)
              try simp only [Act.put]
              try simp only [List.setIfInBounds_toArray]
              try simp only [List.set_cons_succ]
              try simp only [List.set_cons_zero]
              refine wpAnyH_take (i := 4) (v := ?_) (at_list rfl) (by kernel_rfl) (by kernel_rfl) (by kernel_rfl) (fun _ _ _ h => h) (Or.inl ⟨by rfl, ?_⟩) (by assumption) ?_
              rotate_left
              · intro w hSw; (try dsimp only at hSw); first | (go_simp; done) | (go_simp; with_reducible rfl)
              try simp only [Act.put]
              try simp only [List.setIfInBounds_toArray]
              try simp only [List.set_cons_succ]
              try simp only [List.set_cons_zero]
              refine wpAnyH_take (i := 5) (v := ?_) (at_list rfl) (by kernel_rfl) (by kernel_rfl) (by kernel_rfl) (fun _ _ _ h => h) (Or.inl ⟨by rfl, ?_⟩) (by assumption) ?_
              rotate_left
              · intro w hSw; (try dsimp only at hSw); first | (go_simp; done) | (go_simp; with_reducible rfl)
              try simp only [Act.put]
              try simp only [List.setIfInBounds_toArray]
              try simp only [List.set_cons_succ]
              try simp only [List.set_cons_zero]
              refine wpAnyH_take (i := 6) (v := ?_) (at_list rfl) (by kernel_rfl) (by kernel_rfl) (by kernel_rfl) (fun _ _ _ h => h) (Or.inl ⟨by rfl, ?_⟩) (by assumption) ?_
              rotate_left
              · intro w hSw; (try dsimp only at hSw); first | (go_simp; done) | (go_simp; with_reducible rfl)
              try simp only [Act.put]
              try simp only [List.setIfInBounds_toArray]
              try simp only [List.set_cons_succ]
              try simp only [List.set_cons_zero]
              refine wpAnyH_take (i := 7) (v := ?_) (at_list rfl) (by kernel_rfl) (by kernel_rfl) (by kernel_rfl) (fun _ _ _ h => h) (Or.inl ⟨by rfl, ?_⟩) (by assumption) ?_
              rotate_left
              · intro w hSw; (try dsimp only at hSw); first | (go_simp; done) | (go_simp; with_reducible rfl)
              try simp only [Act.put]
              try simp only [List.setIfInBounds_toArray]
              try simp only [List.set_cons_succ]
              try simp only [List.set_cons_zero]
              refine wpAnyH_take (i := 8) (v := ?_) (at_list rfl) (by kernel_rfl) (by kernel_rfl) (by kernel_rfl) (fun _ _ _ h => h) (Or.inl ⟨by rfl, ?_⟩) (by assumption) ?_
              rotate_left
              · intro w hSw; (try dsimp only at hSw); first | (go_simp; done) | (go_simp; with_reducible rfl)
              try simp only [Act.put]
              try simp only [List.setIfInBounds_toArray]
              try simp only [List.set_cons_succ]
              try simp only [List.set_cons_zero]
              refine wpAnyH_take (i := 9) (v := ?_) (at_list rfl) (by kernel_rfl) (by kernel_rfl) (by kernel_rfl) (fun _ _ _ h => h) (Or.inl ⟨by rfl, ?_⟩) (by assumption) ?_
              rotate_left
              · intro w hSw; (try dsimp only at hSw); first | (go_simp; done) | (go_simp; with_reducible rfl)
              try simp only [Act.put]
              try simp only [List.setIfInBounds_toArray]
              try simp only [List.set_cons_succ]
              try simp only [List.set_cons_zero]
              refine wpAnyH_take (i := 10) (v := ?_) (at_list rfl) (by kernel_rfl) (by kernel_rfl) (by kernel_rfl) (fun _ _ _ h => h) (Or.inl ⟨by rfl, ?_⟩) (by assumption) ?_
              rotate_left
              · intro w hSw; (try dsimp only at hSw); first | (go_simp; done) | (go_simp; with_reducible rfl)
              try simp only [Act.put]
              try simp only [List.setIfInBounds_toArray]
              try simp only [List.set_cons_succ]
              try simp only [List.set_cons_zero]
              refine wpAnyH_take (i := 11) (v := ?_) (at_list rfl) (by kernel_rfl) (by kernel_rfl) (by kernel_rfl) (fun _ _ _ h => h) (Or.inl ⟨by rfl, ?_⟩) (by assumption) ?_
              rotate_left
              · intro w hSw; (try dsimp only at hSw); first | (go_simp; done) | (go_simp; with_reducible rfl)
              try simp only [Act.put]
              try simp only [List.setIfInBounds_toArray]
              try simp only [List.set_cons_succ]
              try simp only [List.set_cons_zero]
              refine wpAnyH_take (i := 12) (v := ?_) (at_list rfl) (by kernel_rfl) (by kernel_rfl) (by kernel_rfl) (fun _ _ _ h => h) (Or.inl ⟨by rfl, ?_⟩) (by assumption) ?_
              rotate_left
              · intro w hSw; (try dsimp only at hSw); first | (go_simp; done) | (go_simp; with_reducible rfl)
              try simp only [Act.put]
              try simp only [List.setIfInBounds_toArray]
              try simp only [List.set_cons_succ]
              try simp only [List.set_cons_zero]
              refine wpAnyH_take (i := 13) (v := ?_) (at_list rfl) (by kernel_rfl) (by kernel_rfl) (by kernel_rfl) (fun _ _ _ h => h) (Or.inl ⟨by rfl, ?_⟩) (by assumption) ?_
              rotate_left
              · intro w hSw; (try dsimp only at hSw); first | (go_simp; done) | (go_simp; with_reducible rfl)
              try simp only [Act.put]
              try simp only [List.setIfInBounds_toArray]
              try simp only [List.set_cons_succ]
              try simp only [List.set_cons_zero]
              refine wpAnyH_take (i := 14) (v := ?_) (at_list rfl) (by kernel_rfl) (by kernel_rfl) (by kernel_rfl) (fun _ _ _ h => h) (Or.inl ⟨by rfl, ?_⟩) (by assumption) ?_
              rotate_left
              · intro w hSw; (try dsimp only at hSw); first | (go_simp; done) | (go_simp; with_reducible rfl)
              try simp only [Act.put]
              try simp only [List.setIfInBounds_toArray]
              try simp only [List.set_cons_succ]
              try simp only [List.set_cons_zero]
              refine wpAnyH_take (i := 15) (v := ?_) (at_list rfl) (by kernel_rfl) (by kernel_rfl) (by kernel_rfl) (fun _ _ _ h => h) (Or.inl ⟨by rfl, ?_⟩) (by assumption) ?_
              rotate_left
              · intro w hSw; (try dsimp only at hSw); first | (go_simp; done) | (go_simp; with_reducible rfl)
              try simp only [Act.put]
              try simp only [List.setIfInBounds_toArray]
              try simp only [List.set_cons_succ]
              try simp only [List.set_cons_zero]
              refine wpAnyH_take (i := 16) (v := ?_) (at_list rfl) (by kernel_rfl) (by kernel_rfl) (by kernel_rfl) (fun _ _ _ h => h) (Or.inl ⟨by rfl, ?_⟩) (by assumption) ?_
              rotate_left
              · intro w hSw; (try dsimp only at hSw); first | (go_simp; done) | (go_simp; with_reducible rfl)
              try simp only [Act.put]
              try simp only [List.setIfInBounds_toArray]
              try simp only [List.set_cons_succ]
              try simp only [List.set_cons_zero]
              refine wpAnyH_take (i := 17) (v := ?_) (at_list rfl) (by kernel_rfl) (by kernel_rfl) (by kernel_rfl) (fun _ _ _ h => h) (Or.inl ⟨by rfl, ?_⟩) (by assumption) ?_
              rotate_left
              · intro w hSw; (try dsimp only at hSw); first | (go_simp; done) | (go_simp; with_reducible rfl)
              try simp only [Act.put]
              try simp only [List.setIfInBounds_toArray]
              try simp only [List.set_cons_succ]
              try simp only [List.set_cons_zero]
              refine wpAnyH_ready (rs := [18]) (by kernel_rfl) (by simp) ?_
              refine AllReadyH.cons (at_list rfl) (fun K hK => ?_) AllReadyH.nil
              go_simp
              refine (rFits_any (zAt Z k) (sgAt m.sigs k).ln (sgAt m.sigs k).kd _ (unhide OK).ln0 (unhide OK).ln1 (unhide OK).kd).mono ?_; rintro e w4 ⟨rfl, rfl⟩; dsimp only
              refine hK.out _ _ (hHeld) (fun hHeld => ?_)
              clear hK K
              try simp only [Act.put]
              try simp only [List.setIfInBounds_toArray]
              try simp only [List.set_cons_succ]
              try simp only [List.set_cons_zero]
              refine wpAnyH_take (i := 19) (v := ?_) (at_list rfl) (by kernel_rfl) (by kernel_rfl) (by kernel_rfl) (fun _ _ _ h => h) (Or.inl ⟨by rfl, ?_⟩) (by assumption) ?_
              rotate_left
              · intro w hSw; (try dsimp only at hSw); first | (go_simp; done) | (go_simp; with_reducible rfl)
              try simp only [Act.put]
              try simp only [List.setIfInBounds_toArray]
              try simp only [List.set_cons_succ]
              try simp only [List.set_cons_zero]
              refine wpAnyH_take (i := 20) (v := ?_) (at_list rfl) (by kernel_rfl) (by kernel_rfl) (by kernel_rfl) (fun _ _ _ h => h) (Or.inl ⟨by rfl, ?_⟩) (by assumption) ?_
              rotate_left
              · intro w hSw; (try dsimp only at hSw); first | (go_simp; done) | (go_simp; with_reducible rfl)
              try simp only [Act.put]
              try simp only [List.setIfInBounds_toArray]
              try simp only [List.set_cons_succ]
              try simp only [List.set_cons_zero]
              refine wpAnyH_done (by kernel_rfl) ?_ _
              refine NoPanic.normal ?_
              clear cn zn
              go_wp2
              go_ret3
              have hfu : firstUn m.sigs Z c = k := findIx_is (unhide HN) hlt (by rw [unfit, hac, hfi]; rfl)
              have hpk := pk_eta' _ (unhide HP9 _ hfu (by omega))
              exact ⟨by rw [hpk.1, hpk.2.1, hpk.2.2]; rfl, (unhide HB1).trans ((box_below (by assumption)).mono (unhide HB1).size)⟩
      · have hfu : firstUn m.sigs Z c < 0 := by rw [firstUn, findIx_none (fun j hj => unhide HN j (by omega))]; omega
        have HFU := hide hfu
        have HB := hide hb
        clear hfu hb
        go_wp2_with (at_make; refine wpList_make_full _ rfl _ _ 66 rfl (w1.heap.size + 1) 5 i0 (.int .u8 0) 1 Try.underlying66 (unhide HINF) (unhide HZ0) (unhide HZ1) .i64 .i64 m.sz m.sz m.sz.toNat rfl rfl (unhide HSN).symm (unhide HSN).symm (by rw [unhide HZB]; omega) (by unfold maxLen; omega) (by have := (unhide HB).size; simp at this; omega) ?_)
        intro w3 hown hgrow
        have HB3 := hide (Below.grown (unhide HB) hgrow (by have := (unhide HB).size; simp at this; omega) (by simp))
        have HROW : Hid (w3.ownsRow (w1.heap.size + 1) 5 1 (.slice (some ⟨wr.heap.size, 0, none⟩) m.sz.toNat m.sz.toNat) m.sz.toNat ((bytesL (bitsTo m.sigs Z c 0) m.sz.toNat).map (Value.int .u8))) := hide (by rw [toList_madeCells_one] at hown; rw [bytesL_zero]; exact hown)
        clear hown hgrow hbw
        have hbw := hbox _ (unhide HB3)
        obtain ⟨wo, rfl⟩ : ∃ wo : World, wo = wr := ⟨_, rfl⟩
        go_wp2
        clear hbw
        go_loopw [17, 18, 19, 20, 21] (fun i _ _ _ _ wr => ∃ k : Nat, k ≤ m.sigs.length ∧ i = .int .i64 k ∧ wr.ownsRow (w1.heap.size + 1) 5 1 (.slice (some ⟨wo.heap.size, 0, none⟩) m.sz.toNat m.sz.toNat) m.sz.toNat ((bytesL (bitsTo m.sigs Z c k) m.sz.toNat).map (Value.int .u8)) ∧ Below (w1.heap.size + 1) (w1.alloc (.cells #[.string m.id, .int .i64 m.sz, .slice va m.sigs.length vcap, .int .i64 m.pl] 50)) wr) (fun i _ _ _ _ _ => m.sigs.length - (intOf i).toNat)
        case atStart => exact ⟨0, by omega, rfl, unhide HROW, unhide HB3⟩
        case round =>
          obtain ⟨k, hk, rfl, hrow, hb⟩ := hrel
          have HR := hide hrow
          have HBk := hide hb
          have hbw := hbox _ hb
          clear hrow hb
          by_cases hlt : k < m.sigs.length
          · obtain ⟨ok, r0, r1⟩ := (unhide HG).2 k hlt
            have OK := hide ok
            have hi0 : (0 : Int) ≤ (k : Int) := by omega
            have hi1 : (k : Int) < (m.sigs.length : Int) := by omega
            have hi2 : (k : Int) < (Z.length : Int) := by omega
            clear ok
            go_wp2_with fail
            refine (rActive_any m.id m.sz m.pl _ m.sigs k c _ (ownsRow_below (unhide HSV) (box_below (unhide HBk))) hlen8 hlt r0 r1).mono ?_
            rintro e w4 ⟨rfl, hb4⟩
            have HB4 := hide (box_next (unhide HBk) hb4)
            have HROW4 := hide (ownsRow_bel (unhide HR) hb4)
            clear hb4 hbw
            rcases (unhide HSG).opened with ⟨hnil, _⟩ | ⟨g2, cap2, hv2, hg2, hcap2, hcm2, hc2⟩
            · rw [hnil] at hlt; simp at hlt
            cases hv2
            cases za with
            | none => have := unhide HZ2 rfl; omega
            | some xa =>
              have HC2 := hide hc2
              have HX := hide (unhide HZ3 xa rfl)
              clear hc2
              have cn := fun (wx : World) (h : Below (w1.heap.size + 1) (w1.alloc (.cells #[.string m.id, .int .i64 m.sz, .slice (some ⟨g2, 0, none⟩) m.sigs.length vcap, .int .i64 m.pl] 50)) wx) => rcells7 (k := k) (unhide HC2) hg2 (box_below h) hlt
              have cnw := cn _ (unhide HB4)
              have hbw := hbox _ (unhide HB4)
              have znw := ints_cell (unhide HX) ((unhide HB1).trans ((box_below (unhide HB4)).mono (unhide HB1).size)) (show k < Z.length by omega)
              have hpw := pow_half (sgAt m.sigs k).ln (unhide OK).ln0
              have hhp := half_pos (sgAt m.sigs k).ln
              have hhu := half_le (sgAt m.sigs k).ln (unhide OK).ln1
              have hl0 := (unhide OK).ln0
              have hl1 := (unhide OK).ln1
              obtain ⟨hh, HH⟩ : ∃ x, Hid (x = half (sgAt m.sigs k).ln) := ⟨_, hide rfl⟩
              rw [← unhide HH] at hpw hhp hhu
              cases hac : activeB (sgAt m.sigs k).rl c with
              | false =>
                have HAC := hide hac
                by_cases hv : zAt Z k < 0
                · go_wp2
                  clear cnw znw
                  refine wp_loop_rounds 1 ?_
                  rw [rounds_succ]
                  go_wp2
                  go_roundw
                  case rel => exact ⟨k + 1, by omega, by go_num, by rw [bits_stay (unhide HAC)]; exact unhide HROW4, unhide HB4⟩
                  case measure => simp [intOf]; omega
                · go_wp2
                  clear cnw znw
                  refine wp_loop_rounds 1 ?_
                  rw [rounds_succ]
                  go_wp2
                  go_roundw
                  case rel => exact ⟨k + 1, by omega, by go_num, by rw [bits_stay (unhide HAC)]; exact unhide HROW4, unhide HB4⟩
                  case measure => simp [intOf]; omega
              | true =>
                have HAC := hide hac
                have HFB := hide (fitsB_bounds (firstUn_none (unhide HFU) k hlt hac))
                have hfl : -hh ≤ zAt Z k := by rw [unhide HH]; exact (unhide HFB).1
                have hfh : zAt Z k < 2 * hh := by rw [unhide HH]; exact (unhide HFB).2
                by_cases hv : zAt Z k < 0
                · have HNV := hide (show natural (sgAt m.sigs k).ln (zAt Z k) = zAt Z k + 2 * hh by rw [natural, if_pos hv, unhide HH])
                  have hnb := fun (j : Nat) (hj : (j : Int) < (sgAt m.sigs k).ln) => natural_bit (sgAt m.sigs k).ln (zAt Z k) j (unhide OK).ln0 (unhide OK).ln1 hj (unhide HFB).1 (unhide HFB).2
                  rw [unhide HNV] at hnb
                  have HNB := hide hnb
                  clear hnb
                  go_wp2
                  clear cnw znw
                  go_loopw [20, 21] (fun i _ wr => ∃ j : Nat, (j : Int) ≤ (sgAt m.sigs k).ln ∧ i = .int .i64 j ∧ wr.ownsRow (w1.heap.size + 1) 5 1 (.slice (some ⟨wo.heap.size, 0, none⟩) m.sz.toNat m.sz.toNat) m.sz.toNat ((bytesL (bitsTo m.sigs Z c k ||| layTo (sgAt m.sigs k).st (sgAt m.sigs k).ln (sgAt m.sigs k).od (zAt Z k) j) m.sz.toNat).map (Value.int .u8)) ∧ Below (w1.heap.size + 1) (w1.alloc (.cells #[.string m.id, .int .i64 m.sz, .slice (some ⟨g2, 0, none⟩) m.sigs.length vcap, .int .i64 m.pl] 50)) wr) (fun i _ _ => ((sgAt m.sigs k).ln - intOf i).toNat)
                  case atStart => exact ⟨0, by have := (unhide OK).ln0; omega, rfl, by simpa [layTo] using unhide HROW4, unhide HB4⟩
                  case round =>
                    obtain ⟨j, hj, rfl, hrow, hb5⟩ := hrel
                    have cnw := cn _ hb5
                    have hbw := hbox _ hb5
                    have HR := hide hrow
                    have HB5 := hide hb5
                    clear hrow hb5
                    by_cases hjl : (j : Int) < (sgAt m.sigs k).ln
                    · obtain ⟨n0, n1, n2⟩ := unhide HNB j hjl
                      have hd1 : (0 : Int) ≤ (zAt Z k + 2 * hh) / 2 ^ j := Int.ediv_nonneg n0 (Int.le_of_lt (Int.pow_pos (by omega)))
                      have hd2 : (zAt Z k + 2 * hh) / 2 ^ j ≤ (zAt Z k + 2 * hh) := Int.ediv_le_self _ n0
                      have hand := and_one_i64 ((zAt Z k + 2 * hh) / 2 ^ j) hd1 (by have := half_le (sgAt m.sigs k).ln (unhide OK).ln1; omega)
                      have hbl := bitv_lt (zAt Z k) j
                      by_cases hbv : bitv (zAt Z k) j = 1
                      · have hte : (bits BinOp.and IntKind.i64 ((zAt Z k + 2 * hh) / 2 ^ j) 1 == 1) = true := by rw [hand, n2, hbv]; rfl
                        have HLAY := hide (layTo_one (st := (sgAt m.sigs k).st) (ln := (sgAt m.sigs k).ln) (od := (sgAt m.sigs k).od) hbv)
                        clear hand n0 n1 n2 hd1 hd2 hbl hbv
                        go_wp2_with fail
                        refine (rBit_any _ (sgAt m.sigs k).st (sgAt m.sigs k).ln _ _ j (sgAt m.sigs k).od (sgAt m.sigs k).kd _ (unhide OK).st0 (unhide OK).st1 (unhide OK).ln0 (unhide OK).ln1 (unhide OK).od (by omega) hjl).mono ?_
                        rintro e w6 ⟨rfl, hb6⟩
                        have hp0 := place_lo (sgAt m.sigs k).st (sgAt m.sigs k).ln (sgAt m.sigs k).od j (unhide OK).st0 (by omega) hjl
                        have hp1 := unhide HWI k hlt j hjl
                        have hpn : place (sgAt m.sigs k).st (sgAt m.sigs k).ln (sgAt m.sigs k).od j = (((place (sgAt m.sigs k).st (sgAt m.sigs k).ln (sgAt m.sigs k).od j).toNat : Nat) : Int) := (Int.toNat_of_nonneg hp0).symm
                        have HPN := hide hpn
                        have HB6 := hide (box_next (unhide HB5) hb6)
                        have HR6 := hide (ownsRow_bel (unhide HR) hb6)
                        clear hb6 cnw hbw hpn hte
                        go_wp2_with fail
                        rw [unhide HPN]
                        refine (rPut_any (w1.heap.size + 1) _ _ m.sz.toNat _ (place (sgAt m.sigs k).st (sgAt m.sigs k).ln (sgAt m.sigs k).od j).toNat _ (unhide HR6) (by omega) (by omega)).mono ?_
                        rintro e w7 ⟨rfl, hrow7, hgr7⟩
                        have HB7 := hide (Below.grown (unhide HB6) hgr7 (by have := (unhide HB6).size; simp at this; omega) (fun q hq => by cases hq; exact ((unhide HR6).lt _ rfl).1))
                        have HR7 := hide hrow7
                        clear hrow7 hgr7
                        go_wp2
                        go_roundw
                        case rel =>
                          refine ⟨j + 1, by omega, by go_num, ?_, unhide HB7⟩
                          rw [unhide HLAY, ← Nat.or_assoc]
                          exact unhide HR7
                        case measure => simp [intOf]; omega
                      · have hte : (bits BinOp.and IntKind.i64 ((zAt Z k + 2 * hh) / 2 ^ j) 1 == 1) = false := by rw [hand, n2, beq_eq_false_iff_ne]; omega
                        have HLAY := hide (layTo_zero (st := (sgAt m.sigs k).st) (ln := (sgAt m.sigs k).ln) (od := (sgAt m.sigs k).od) (show bitv (zAt Z k) j = 0 by omega))
                        clear hand n0 n1 n2 hd1 hd2 hbl hbv
                        go_wp2
                        go_roundw
                        case rel =>
                          refine ⟨j + 1, by omega, by go_num, ?_, unhide HB5⟩
                          rw [unhide HLAY]
                          exact unhide HR
                        case measure => simp [intOf]; omega
                    · have hjn : (sgAt m.sigs k).ln.toNat = j := by omega
                      have HJ := hide hjn
                      clear hjn
                      go_wp2
                      go_roundw
                      case rel =>
                        refine ⟨k + 1, by omega, by go_num, ?_, unhide HB5⟩
                        have h7 := unhide HR
                        have e7 : bitsTo m.sigs Z c (k + 1) = bitsTo m.sigs Z c k ||| layTo (sgAt m.sigs k).st (sgAt m.sigs k).ln (sgAt m.sigs k).od (zAt Z k) j := by
                          rw [bitsTo, if_pos (unhide HAC), unhide HJ]; rfl
                        rw [e7]
                        exact h7
                      case measure => simp [intOf]; omega
                · have HNV := hide (show natural (sgAt m.sigs k).ln (zAt Z k) = zAt Z k by rw [natural, if_neg hv])
                  have hnb := fun (j : Nat) (hj : (j : Int) < (sgAt m.sigs k).ln) => natural_bit (sgAt m.sigs k).ln (zAt Z k) j (unhide OK).ln0 (unhide OK).ln1 hj (unhide HFB).1 (unhide HFB).2
                  rw [unhide HNV] at hnb
                  have HNB := hide hnb
                  clear hnb
                  go_wp2
                  clear cnw znw
                  go_loopw [20, 21] (fun i _ wr => ∃ j : Nat, (j : Int) ≤ (sgAt m.sigs k).ln ∧ i = .int .i64 j ∧ wr.ownsRow (w1.heap.size + 1) 5 1 (.slice (some ⟨wo.heap.size, 0, none⟩) m.sz.toNat m.sz.toNat) m.sz.toNat ((bytesL (bitsTo m.sigs Z c k ||| layTo (sgAt m.sigs k).st (sgAt m.sigs k).ln (sgAt m.sigs k).od (zAt Z k) j) m.sz.toNat).map (Value.int .u8)) ∧ Below (w1.heap.size + 1) (w1.alloc (.cells #[.string m.id, .int .i64 m.sz, .slice (some ⟨g2, 0, none⟩) m.sigs.length vcap, .int .i64 m.pl] 50)) wr) (fun i _ _ => ((sgAt m.sigs k).ln - intOf i).toNat)
                  case atStart => exact ⟨0, by have := (unhide OK).ln0; omega, rfl, by simpa [layTo] using unhide HROW4, unhide HB4⟩
                  case round =>
                    obtain ⟨j, hj, rfl, hrow, hb5⟩ := hrel
                    have cnw := cn _ hb5
                    have hbw := hbox _ hb5
                    have HR := hide hrow
                    have HB5 := hide hb5
                    clear hrow hb5
                    by_cases hjl : (j : Int) < (sgAt m.sigs k).ln
                    · obtain ⟨n0, n1, n2⟩ := unhide HNB j hjl
                      have hd1 : (0 : Int) ≤ (zAt Z k) / 2 ^ j := Int.ediv_nonneg n0 (Int.le_of_lt (Int.pow_pos (by omega)))
                      have hd2 : (zAt Z k) / 2 ^ j ≤ (zAt Z k) := Int.ediv_le_self _ n0
                      have hand := and_one_i64 ((zAt Z k) / 2 ^ j) hd1 (by have := half_le (sgAt m.sigs k).ln (unhide OK).ln1; omega)
                      have hbl := bitv_lt (zAt Z k) j
                      by_cases hbv : bitv (zAt Z k) j = 1
                      · have hte : (bits BinOp.and IntKind.i64 ((zAt Z k) / 2 ^ j) 1 == 1) = true := by rw [hand, n2, hbv]; rfl
                        have HLAY := hide (layTo_one (st := (sgAt m.sigs k).st) (ln := (sgAt m.sigs k).ln) (od := (sgAt m.sigs k).od) hbv)
                        clear hand n0 n1 n2 hd1 hd2 hbl hbv
                        go_wp2_with fail
                        refine (rBit_any _ (sgAt m.sigs k).st (sgAt m.sigs k).ln _ _ j (sgAt m.sigs k).od (sgAt m.sigs k).kd _ (unhide OK).st0 (unhide OK).st1 (unhide OK).ln0 (unhide OK).ln1 (unhide OK).od (by omega) hjl).mono ?_
                        rintro e w6 ⟨rfl, hb6⟩
                        have hp0 := place_lo (sgAt m.sigs k).st (sgAt m.sigs k).ln (sgAt m.sigs k).od j (unhide OK).st0 (by omega) hjl
                        have hp1 := unhide HWI k hlt j hjl
                        have hpn : place (sgAt m.sigs k).st (sgAt m.sigs k).ln (sgAt m.sigs k).od j = (((place (sgAt m.sigs k).st (sgAt m.sigs k).ln (sgAt m.sigs k).od j).toNat : Nat) : Int) := (Int.toNat_of_nonneg hp0).symm
                        have HPN := hide hpn
                        have HB6 := hide (box_next (unhide HB5) hb6)
                        have HR6 := hide (ownsRow_bel (unhide HR) hb6)
                        clear hb6 cnw hbw hpn hte
                        go_wp2_with fail
                        rw [unhide HPN]
                        refine (rPut_any (w1.heap.size + 1) _ _ m.sz.toNat _ (place (sgAt m.sigs k).st (sgAt m.sigs k).ln (sgAt m.sigs k).od j).toNat _ (unhide HR6) (by omega) (by omega)).mono ?_
                        rintro e w7 ⟨rfl, hrow7, hgr7⟩
                        have HB7 := hide (Below.grown (unhide HB6) hgr7 (by have := (unhide HB6).size; simp at this; omega) (fun q hq => by cases hq; exact ((unhide HR6).lt _ rfl).1))
                        have HR7 := hide hrow7
                        clear hrow7 hgr7
                        go_wp2
                        go_roundw
                        case rel =>
                          refine ⟨j + 1, by omega, by go_num, ?_, unhide HB7⟩
                          rw [unhide HLAY, ← Nat.or_assoc]
                          exact unhide HR7
                        case measure => simp [intOf]; omega
                      · have hte : (bits BinOp.and IntKind.i64 ((zAt Z k) / 2 ^ j) 1 == 1) = false := by rw [hand, n2, beq_eq_false_iff_ne]; omega
                        have HLAY := hide (layTo_zero (st := (sgAt m.sigs k).st) (ln := (sgAt m.sigs k).ln) (od := (sgAt m.sigs k).od) (show bitv (zAt Z k) j = 0 by omega))
                        clear hand n0 n1 n2 hd1 hd2 hbl hbv
                        go_wp2
                        go_roundw
                        case rel =>
                          refine ⟨j + 1, by omega, by go_num, ?_, unhide HB5⟩
                          rw [unhide HLAY]
                          exact unhide HR
                        case measure => simp [intOf]; omega
                    · have hjn : (sgAt m.sigs k).ln.toNat = j := by omega
                      have HJ := hide hjn
                      clear hjn
                      go_wp2
                      go_roundw
                      case rel =>
                        refine ⟨k + 1, by omega, by go_num, ?_, unhide HB5⟩
                        have h7 := unhide HR
                        have e7 : bitsTo m.sigs Z c (k + 1) = bitsTo m.sigs Z c k ||| layTo (sgAt m.sigs k).st (sgAt m.sigs k).ln (sgAt m.sigs k).od (zAt Z k) j := by
                          rw [bitsTo, if_pos (unhide HAC), unhide HJ]; rfl
                        rw [e7]
                        exact h7
                      case measure => simp [intOf]; omega
          · have hkn : k = m.sigs.length := by omega
            have hconv := conv_row (unhide HR)
            have HK := hide hkn
            have hpk := pk_eta' _ (unhide HP0 (unhide HFU))
            have HPK := hide hpk
            clear hkn hpk
            go_wp2
            go_ret3
            exact ⟨by rw [(unhide HPK).1, (unhide HPK).2.1, (unhide HPK).2.2, payB, ← unhide HK]; rfl, (unhide HB1).trans ((box_below (unhide HBk)).mono (unhide HB1).size)⟩
  · have HP := hide (pk_eta' _ (show pk s id Z = (noBytes, 8, 0) by rw [unhide HPK, pkMsg, if_pos hln]))
    have hl2 : ((Z.length : Int) != (m.sigs.length : Int)) = true := by rw [bne_iff_ne]; omega
    clear hln
    go_wp2
    go_ret3
    exact ⟨by rw [(unhide HP).1, (unhide HP).2.1, (unhide HP).2.2]; rfl, (unhide HB1).alloc (unhide HB1).size _⟩

end Go.Proofs.Ytoihlnjcgopdlab

namespace Go.Proofs.Ytoihlnjcgopdlab
open Go.RowKit

/-- Bit q of a payload's number. -/
def bitN (N q : Nat) : Nat := N / 2 ^ q % 2
theorem bitN_lt (N q : Nat) : bitN N q < 2 := Nat.mod_lt _ (by omega)
/-- What the first k bits of a signal are worth together. -/
def heldTo (st ln od : Int) (N : Nat) : Nat → Nat
  | 0 => 0
  | k + 1 => heldTo st ln od N k + bitN N (place st ln od k).toNat * 2 ^ k
theorem heldTo_lt (st ln od : Int) (N k : Nat) : heldTo st ln od N k < 2 ^ k := by
  induction k with
  | zero => simp [heldTo]
  | succ k ih =>
    have hb := bitN_lt N (place st ln od k).toNat
    rw [heldTo, Nat.pow_succ]
    obtain h | h : bitN N (place st ln od k).toNat = 0 ∨ bitN N (place st ln od k).toNat = 1 := by omega
    · rw [h]; omega
    · rw [h]; omega
/-- What a signal holds in a payload. -/
def heldV (st ln od kd : Int) (N : Nat) : Int := if kd = 115 ∧ half ln ≤ (heldTo st ln od N ln.toNat : Int) then (heldTo st ln od N ln.toNat : Int) - 2 * half ln else (heldTo st ln od N ln.toNat : Int)

theorem held_and (N : Nat) (q : Nat) (hN : N < 18446744073709551616) : bits BinOp.and IntKind.u64 ((N : Int) / 2 ^ q) 1 = (bitN N q : Int) := by
  have e : ((N : Int) / 2 ^ q) = ((N / 2 ^ q : Nat) : Int) := by simp
  have hle : N / 2 ^ q ≤ N := Nat.div_le_self _ _
  rw [e]
  generalize hx : N / 2 ^ q = x at *
  rw [and_one_u64 (x : Int) (by omega) (by omega), bitN, hx]; omega
theorem pow32 (k : Nat) (h : k ≤ 32) : (2 : Int) ^ k ≤ 4294967296 ∧ 1 ≤ (2 : Int) ^ k := by
  have h1 : (2 : Nat) ^ k ≤ 2 ^ 32 := Nat.pow_le_pow_right (by omega) h
  have e1 : (2 : Nat) ^ 32 = 4294967296 := rfl
  have e : ((2 : Int) ^ k) = ((2 ^ k : Nat) : Int) := by simp
  have h2 : 0 < 2 ^ k := Nat.two_pow_pos k
  rw [e]; omega

theorem held_step (st ln od : Int) (N k : Nat) (hk : k ≤ 31) (b : Nat) (hb : b = bitN N (place st ln od k).toNat) : wrap64 ((heldTo st ln od N k : Int) + wrap64 ((b : Int) * 2 ^ k)) = (heldTo st ln od N (k + 1) : Int) := by
  have hl := bitN_lt N (place st ln od k).toNat
  have h1 := pow32 k (by omega)
  have h2 := heldTo_lt st ln od N k
  have e : ((2 : Int) ^ k) = ((2 ^ k : Nat) : Int) := by simp
  rw [heldTo, ← hb]
  rw [← hb] at hl
  rw [e] at h1 ⊢
  generalize 2 ^ k = y at *
  generalize heldTo st ln od N k = x at *
  obtain rfl | rfl : b = 0 ∨ b = 1 := by omega
  · simp only [wrap64]; omega
  · simp only [wrap64]; omega

set_option maxRecDepth 100000 in
set_option maxHeartbeats 1000000 in
theorem heldValue_any (a0 a1 st ln od kd a6 : Int) (N : Nat) (w : World) (h0 : 0 ≤ st) (h1 : st ≤ 63) (h2 : 1 ≤ ln) (h3 : ln ≤ 32) (h4 : od = 60 ∨ od = 62) (h5 : kd = 117 ∨ kd = 115) (hp : ∀ i, 0 ≤ i → i < ln → place st ln od i ≤ 63) (hN : N < 18446744073709551616) :
    Calls Try.prog 92 #[.agg #[.int .i64 a0, .int .u8 a1, .int .i64 st, .int .i64 ln, .int .u8 od, .int .u8 kd, .int .u8 a6], .int .u64 N] w
      fun e w' => e = .returned (.int .i64 (heldV st ln od kd N)) ∧ Below w.heap.size w w' := by
  have H4 := hide h4
  have H5 := hide h5
  have HP := hide hp
  have HN := hide hN
  clear h4 h5 hp hN
  go_enter Try.func92, Try.ntmps92
  go_wp2
  go_loopw [5, 6, 7, 8] (fun v i _ _ wr => ∃ k : Nat, (k : Int) ≤ ln ∧ i = .int .i64 k ∧ v = .int .i64 (heldTo st ln od N k) ∧ Below (w.heap.size + 1) (w.alloc (.cells #[.int .i64 a0, .int .u8 a1, .int .i64 st, .int .i64 ln, .int .u8 od, .int .u8 kd, .int .u8 a6] 117)) wr) (fun _ i _ _ _ => (ln - intOf i).toNat)
  case atStart => exact ⟨0, by omega, rfl, rfl, Below.refl _ _⟩
  case round =>
    obtain ⟨k, hk, rfl, rfl, hb⟩ := hrel
    have HB := hide hb
    have hc := box_cell hb
    clear hb
    have hht := heldTo_lt st ln od N k
    have hp32 := pow32 k (by omega)
    have hhb : (heldTo st ln od N k : Int) < 2 ^ k := by have e : ((2 : Int) ^ k) = ((2 ^ k : Nat) : Int) := by simp
                                                         rw [e]; omega
    by_cases hlt : (k : Int) < ln
    · have hp0 := place_lo st ln od k h0 (by omega) hlt
      have hp1 := unhide HP k (by omega) hlt
      have hand := held_and N (place st ln od k).toNat (unhide HN)
      obtain ⟨bq, HBQ⟩ : ∃ b : Nat, Hid (b = bitN N (place st ln od k).toNat) := ⟨_, hide rfl⟩
      rw [← unhide HBQ] at hand
      have hbl : bq < 2 := by rw [unhide HBQ]; exact bitN_lt _ _
      have HHT := hide hht
      have HHB := hide hhb
      have HP32 := hide hp32
      clear hht hp32 hhb
      go_wp2_with fail
      refine (bitPlace_any a0 a1 st ln od kd a6 k wr h0 h1 h2 h3 (unhide H4) (by omega) hlt).mono ?_
      rintro e w' ⟨rfl, hb'⟩
      go_wp2
      go_roundw
      case rel => exact ⟨k + 1, by omega, by go_num, by rw [held_step st ln od N k (by omega) bq (unhide HBQ)], box_next (unhide HB) hb'⟩
      case measure => simp [intOf]; omega
    · have hkn : ln.toNat = k := by omega
      have hub : (heldTo st ln od N k : Int) < 2 * half ln := by rw [← pow_half ln h2, hkn]; exact hhb
      have HV0 := hide (show kd = 117 → heldV st ln od kd N = (heldTo st ln od N k : Int) by intro hk1; rw [heldV, hkn, if_neg (fun hx => by omega)])
      have HV1 := hide (show kd = 115 → heldV st ln od kd N = extV (heldTo st ln od N k : Int) ln by
        intro hk1
        rw [heldV, hkn, extV, Int.emod_eq_of_lt (by omega) hub]
        by_cases hge : half ln ≤ (heldTo st ln od N k : Int)
        · rw [if_pos ⟨hk1, hge⟩, if_pos hge]
        · rw [if_neg (fun hx => hge hx.2), if_neg hge])
      generalize heldTo st ln od N k = x at *
      clear hht hhb hp32 hkn hub
      rcases unhide H5 with rfl | rfl
      · go_wp2
        go_ret
        exact ⟨ret_int (by rw [unhide HV0 (by first | rfl | trivial)]), box_below (unhide HB)⟩
      · go_wp2_with fail
        refine (extended_any _ ln _ h2 h3).mono ?_
        rintro e w' ⟨rfl, rfl⟩
        go_wp2
        go_ret
        exact ⟨ret_int (by rw [unhide HV1 (by first | rfl | trivial)]), box_below (unhide HB)⟩

/-- The number that a payload is. -/
def payTo (p : ByteArray) : Nat → Nat
  | 0 => 0
  | k + 1 => payTo p k ||| ((bt p k).toNat * 2 ^ (8 * k))
theorem payTo_lt (p : ByteArray) (k : Nat) : payTo p k < 2 ^ (8 * k) := by
  induction k with
  | zero => simp [payTo]
  | succ k ih =>
    rw [payTo]
    have h1 := bt_lo p k
    have h2 := bt_hi p k
    refine Nat.or_lt_two_pow (Nat.lt_of_lt_of_le ih (Nat.pow_le_pow_right (by omega) (by omega))) ?_
    rw [show 8 * (k + 1) = 8 + 8 * k by omega, Nat.pow_add]
    exact Nat.mul_lt_mul_of_pos_right (by omega) (Nat.two_pow_pos _)
theorem payTo_64 (p : ByteArray) (k : Nat) (h : k ≤ 8) : payTo p k < 18446744073709551616 := by
  have e : (18446744073709551616 : Nat) = 2 ^ 64 := rfl
  rw [e]
  exact Nat.lt_of_lt_of_le (payTo_lt p k) (Nat.pow_le_pow_right (by omega) (by omega))
theorem pay_step (p : ByteArray) (k : Nat) (hk : k < p.size) (h8 : k < 8) : bits BinOp.or IntKind.u64 (payTo p k : Int) (IntKind.u64.wrap (IntKind.u64.wrap (p[k].toNat : Int) * 2 ^ (8 * k))) = (payTo p (k + 1) : Nat) := by
  have hin : IntKind.u64.wrap (p[k].toNat : Int) = (p[k].toNat : Int) := by have := (p[k]).toNat_lt; rw [IntKind.wrap_u64]; omega
  rw [hin]
  have e0 := bt_of hk
  have h1 := bt_lo p k
  have h2 := bt_hi p k
  have e1 : (p[k].toNat : Int) * 2 ^ (8 * k) = (((bt p k).toNat * 2 ^ (8 * k) : Nat) : Int) := by
    rw [e0]
    have : bt p k = ((bt p k).toNat : Int) := by omega
    rw [this]; simp
  have hlt : (bt p k).toNat * 2 ^ (8 * k) < 18446744073709551616 := by
    have e : (18446744073709551616 : Nat) = 2 ^ 64 := rfl
    rw [e]
    refine Nat.lt_of_lt_of_le ?_ (Nat.pow_le_pow_right (n := 2) (by omega) (show 8 + 8 * k ≤ 64 by omega))
    rw [Nat.pow_add]
    exact Nat.mul_lt_mul_of_pos_right (by omega) (Nat.two_pow_pos _)
  rw [e1, IntKind.wrap_u64]
  generalize hy : (bt p k).toNat * 2 ^ (8 * k) = y at *
  rw [show (y : Int) % 18446744073709551616 = (y : Int) by omega, u64_or_nat _ _ (payTo_64 p k (by omega)) hlt, payTo, hy]

set_option maxRecDepth 100000 in
set_option maxHeartbeats 1000000 in
theorem payloadBits_any (p : ByteArray) (w : World) (h8 : p.size ≤ 8) :
    Calls Try.prog 71 #[.string p] w fun e w' => e = .returned (.int .u64 (payTo p p.size)) ∧ w' = w := by
  go_enter Try.func71, Try.ntmps71
  go_wp2
  go_loop [3, 4] (fun b i => ∃ k : Nat, k ≤ p.size ∧ i = .int .i64 k ∧ b = .int .u64 (payTo p k)) (fun _ i => p.size - (intOf i).toNat)
  case atStart => exact ⟨0, by omega, rfl, rfl⟩
  case round =>
    obtain ⟨k, hk, rfl, rfl⟩ := hrel
    by_cases hlt : k < p.size
    · have HS := hide (pay_step p k hlt (by omega))
      have hph := payTo_64 p k (by omega)
      go_wp2
      go_round
      case rel => exact ⟨k + 1, by omega, by go_num, by rw [← unhide HS]⟩
      case measure => simp [intOf]; omega
    · have hkn : k = p.size := by omega
      have HK := hide hkn
      clear hkn
      go_wp2
      go_ret
      exact ⟨ret_u64 (by rw [unhide HK]), rfl⟩

end Go.Proofs.Ytoihlnjcgopdlab

namespace Go.Proofs.Ytoihlnjcgopdlab
open Go.RowKit

theorem bitN_test (N q : Nat) : bitN N q = if N.testBit q then 1 else 0 := by
  rw [bitN, Nat.testBit_eq_decide_div_mod_eq]
  have : N / 2 ^ q % 2 < 2 := Nat.mod_lt _ (by omega)
  by_cases h : N / 2 ^ q % 2 = 1
  · simp [h]
  · simp [h]; omega

theorem byte_test (p : ByteArray) (k i : Nat) (h : 8 ≤ i) : ((bt p k).toNat).testBit i = false := by
  have h1 := bt_lo p k
  have h2 := bt_hi p k
  apply Nat.testBit_lt_two_pow
  have e : (256 : Nat) = 2 ^ 8 := rfl
  have : 2 ^ 8 ≤ 2 ^ i := Nat.pow_le_pow_right (by omega) h
  omega

theorem payTo_test (p : ByteArray) (n b : Nat) : (payTo p n).testBit b = (decide (b / 8 < n) && ((bt p (b / 8)).toNat).testBit (b % 8)) := by
  induction n with
  | zero => simp [payTo]
  | succ n ih =>
    rw [payTo, Nat.testBit_or, ih, Nat.testBit_mul_two_pow]
    by_cases h : b / 8 = n
    · have e1 : b - 8 * n = b % 8 := by omega
      have e2 : 8 * n ≤ b := by omega
      simp [h, e1, e2]
    · by_cases h2 : b / 8 < n
      · have e2 : ¬ 8 * n ≤ b := by omega
        have e3 : b / 8 < n + 1 := by omega
        simp [h2, e2, e3]
      · have e3 : ¬ b / 8 < n + 1 := by omega
        have e4 : 8 ≤ b - 8 * n := by omega
        simp [h2, e3, byte_test p n _ e4]

theorem payTo_bit (p : ByteArray) (n b : Nat) (h : b / 8 < n) : bitN (payTo p n) b = (bt p (b / 8)).toNat / 2 ^ (b % 8) % 2 := by
  have e : (bt p (b / 8)).toNat / 2 ^ (b % 8) % 2 = bitN (bt p (b / 8)).toNat (b % 8) := rfl
  rw [e, bitN_test, bitN_test, payTo_test]
  simp [h]

theorem get_val (p : ByteArray) (b : Nat) (hq : b / 8 < p.size) : bits BinOp.and IntKind.i64 (wrap64 ((p[b / 8].toNat : Int) / 2 ^ (b % 8))) 1 = (bitN (payTo p p.size) b : Int) := by
  rw [payTo_bit p p.size b hq]
  have e0 := bt_of hq
  have h1 := bt_lo p (b / 8)
  have h2 := bt_hi p (b / 8)
  have hlt := (p[b / 8]).toNat_lt
  have e2 : (bt p (b / 8)).toNat = p[b / 8].toNat := by omega
  rw [e2]
  have e1 : ((p[b / 8].toNat : Int) / 2 ^ (b % 8)) = ((p[b / 8].toNat / 2 ^ (b % 8) : Nat) : Int) := by simp
  have hle : p[b / 8].toNat / 2 ^ (b % 8) ≤ p[b / 8].toNat := Nat.div_le_self _ _
  rw [e1]
  generalize p[b / 8].toNat / 2 ^ (b % 8) = y at *
  have e3 : wrap64 (y : Int) = (y : Int) := by simp only [wrap64]; omega
  rw [e3, and_one_i64 _ (by omega) (by omega)]
  omega

set_option maxRecDepth 100000 in
set_option maxHeartbeats 400000 in
theorem rGet_any (p : ByteArray) (b : Nat) (w : World) (h8 : p.size ≤ 8) (hb : b < 8 * p.size) :
    Calls Try.prog 99 #[.string p, .int .i64 b] w fun e w' => e = .returned (.int .i64 (bitN (payTo p p.size) b)) ∧ w' = w := by
  have hq : b / 8 < p.size := by omega
  have h3 : (0 : Int) ≤ (b : Int) / 8 := by omega
  have h4 : (b : Int) / 8 < (p.size : Int) := by omega
  have hx := payTo_bit p p.size b hq
  have HX := hide hx
  have hm0 : (0 : Int) ≤ (b : Int) % 8 := by omega
  have hm1 : (b : Int) % 8 < 8 := by omega
  clear hx
  go_enter Try.func99, Try.ntmps99
  go_wp2
  go_ret
  exact ⟨ret_int (get_val p b hq), rfl⟩

theorem heldV_top (st ln od kd : Int) (N : Nat) (h0 : 1 ≤ ln) : heldV st ln od kd N = if kd = 115 then (heldTo st ln od N ln.toNat : Int) - (bitN N (place st ln od (ln - 1)).toNat : Int) * (2 * half ln) else (heldTo st ln od N ln.toNat : Int) := by
  obtain ⟨n, hn⟩ : ∃ n : Nat, ln = (n : Int) + 1 := ⟨(ln - 1).toNat, by omega⟩
  have h1 : ln.toNat = n + 1 := by omega
  have h2 : ln - 1 = (n : Int) := by omega
  have hlt := heldTo_lt st ln od N n
  have hb := bitN_lt N (place st ln od n).toNat
  have hh : half ln = ((2 ^ n : Nat) : Int) := by unfold half; rw [h1]; simp
  unfold heldV
  rw [h1, h2, heldTo, hh]
  generalize 2 ^ n = y at *
  generalize heldTo st ln od N n = x at *
  by_cases hk : kd = 115
  · rw [if_pos hk]
    obtain h | h : bitN N (place st ln od n).toNat = 0 ∨ bitN N (place st ln od n).toNat = 1 := by omega
    · rw [h, if_neg (by intro h'; have := h'.2; simp at this; omega)]; simp
    · rw [h, if_pos ⟨hk, by simp; omega⟩]; simp
  · rw [if_neg hk, if_neg (fun h => hk h.1)]

theorem top_step (x b : Nat) (hh : Int) (hb : b < 2) (hx : (x : Int) < 2 * hh) (h1 : 1 ≤ hh) (h2 : hh ≤ 2147483648) : wrap64 ((x : Int) - wrap64 ((b : Int) * (2 * hh))) = (x : Int) - (b : Int) * (2 * hh) := by
  obtain rfl | rfl : b = 0 ∨ b = 1 := by omega
  · simp only [wrap64]; omega
  · simp only [wrap64]; omega

set_option maxRecDepth 100000 in
set_option maxHeartbeats 1000000 in
theorem rHolds_any (a0 st ln od kd a5 a6 : Int) (p : ByteArray) (w : World) (h0 : 0 ≤ st) (h1 : st ≤ 63) (h2 : 1 ≤ ln) (h3 : ln ≤ 32) (h4 : od = 60 ∨ od = 62) (h8 : p.size ≤ 8) (hp : ∀ i : Nat, (i : Int) < ln → place st ln od i < 8 * (p.size : Int)) :
    Calls Try.prog 93 #[.agg #[.int .u8 a0, .int .i64 st, .int .i64 ln, .bool (decide (od = 62)), .bool (decide (kd = 115)), .int .u8 a5, .int .i64 a6], .string p] w
      fun e w' => e = .returned (.int .i64 (heldV st ln od kd (payTo p p.size))) ∧ Below w.heap.size w w' := by
  have H4 := hide h4
  have HP := hide hp
  clear h4 hp
  obtain ⟨N, HNN⟩ : ∃ N, Hid (N = payTo p p.size) := ⟨_, hide rfl⟩
  rw [← unhide HNN]
  obtain ⟨x1, X1⟩ : ∃ x, Hid (x = decide (od = 62)) := ⟨_, hide rfl⟩
  obtain ⟨x2, X2⟩ : ∃ x, Hid (x = decide (kd = 115)) := ⟨_, hide rfl⟩
  rw [← unhide X1, ← unhide X2]
  have hpw := pow_half ln h2
  have hhp := half_pos ln
  have hhu := half_le ln h3
  obtain ⟨hh, HH⟩ : ∃ x, Hid (x = half ln) := ⟨_, hide rfl⟩
  have HPW := hide hpw
  rw [← unhide HH] at hpw hhp hhu
  have HV := hide (heldV_top st ln od kd N h2)
  rw [← unhide HH] at HV
  go_enter Try.func93, Try.ntmps93
  go_wp2
  go_loopw [5, 6, 7, 8] (fun v i _ _ wr => ∃ k : Nat, (k : Int) ≤ ln ∧ i = .int .i64 k ∧ ((k : Int) < ln → v = .int .i64 (heldTo st ln od N k)) ∧ ((k : Int) = ln → v = .int .i64 (heldV st ln od kd N)) ∧ Below (w.heap.size + 1) (w.alloc (.cells #[.int .u8 a0, .int .i64 st, .int .i64 ln, .bool x1, .bool x2, .int .u8 a5, .int .i64 a6] 78)) wr) (fun _ i _ _ _ => (ln - intOf i).toNat)
  case atStart => exact ⟨0, by omega, rfl, fun _ => rfl, fun h => by omega, Below.refl _ _⟩
  case round =>
    obtain ⟨k, hk, rfl, hv1, hv2, hb⟩ := hrel
    have HB := hide hb
    have hc := box_cell hb
    clear hb
    by_cases hlt : (k : Int) < ln
    · have hv := hv1 hlt
      subst hv
      clear hv1 hv2
      obtain ⟨bq, HBQ⟩ : ∃ b : Nat, Hid (b = bitN N (place st ln od k).toNat) := ⟨_, hide rfl⟩
      have hbl : bq < 2 := by rw [unhide HBQ]; exact bitN_lt _ _
      have hp0 := place_lo st ln od k h0 (by omega) hlt
      have hp1 := unhide HP k hlt
      have HPN := hide (Int.toNat_of_nonneg hp0).symm
      have HST := hide (held_step st ln od N k (by omega) bq (unhide HBQ))
      go_wp2_with fail
      rw [unhide X1, unhide X2]
      refine (rBit_any a0 st ln a5 a6 k od kd wr h0 h1 h2 h3 (unhide H4) (by omega) hlt).mono ?_
      rintro e w' ⟨rfl, hb'⟩
      rw [← unhide X1, ← unhide X2]
      have HB' := hide (box_next (unhide HB) hb')
      clear hb' hc
      have hc := box_cell (unhide HB')
      go_wp2_with fail
      rw [unhide HPN]
      refine (rGet_any p (place st ln od k).toNat _ h8 (by omega)).mono ?_
      rintro e w2 ⟨rfl, rfl⟩
      rw [← unhide HNN, ← unhide HBQ]
      have hx2 : x2 = false ∨ (x2 = true ∧ (k : Int) + 1 < ln) ∨ (x2 = true ∧ (k : Int) + 1 = ln) := by
        cases x2
        · exact .inl rfl
        · by_cases h : (k : Int) + 1 < ln
          · exact .inr (.inl ⟨rfl, h⟩)
          · exact .inr (.inr ⟨rfl, by omega⟩)
      rcases hx2 with rfl | ⟨rfl, hlt2⟩ | ⟨rfl, hlt2⟩
      · go_wp2
        go_roundw
        case rel =>
          refine ⟨k + 1, by omega, by go_num, fun _ => by rw [unhide HST], fun h => ?_, unhide HB'⟩
          have e : ln.toNat = k + 1 := by omega
          have hkd : ¬ kd = 115 := by have := unhide X2; simpa using this.symm
          rw [unhide HST, unhide HV, if_neg hkd, e]
        case measure => simp [intOf]; omega
      · have hne : ((k : Int) == ln - 1) = false := by rw [beq_eq_false_iff_ne]; omega
        go_wp2
        go_roundw
        case rel => exact ⟨k + 1, by omega, by go_num, fun _ => by rw [unhide HST], fun h => by omega, unhide HB'⟩
        case measure => simp [intOf]; omega
      · have hne : ((k : Int) == ln - 1) = true := by rw [beq_iff_eq]; omega
        have hub := heldTo_lt st ln od N (k + 1)
        have hub2 : (heldTo st ln od N (k + 1) : Int) < 2 * hh := by
          rw [← hpw, show ln.toNat = k + 1 by omega]
          have e : ((2 : Int) ^ (k + 1)) = ((2 ^ (k + 1) : Nat) : Int) := by simp
          rw [e]; omega
        have HTS := hide (top_step (heldTo st ln od N (k + 1)) bq hh hbl hub2 hhp hhu)
        have HL2 := hide hlt2
        clear hlt2 hub hub2
        go_wp2
        go_roundw
        case rel =>
          refine ⟨k + 1, by have := unhide HL2; omega, by go_num, fun h => by have := unhide HL2; omega, fun h => ?_, unhide HB'⟩
          have e : ln.toNat = k + 1 := by omega
          have e2 : ln - 1 = (k : Int) := by omega
          have hkd : kd = 115 := by have := unhide X2; simpa using this.symm
          rw [unhide HST, unhide HTS, unhide HV, if_pos hkd, e, e2, ← unhide HBQ]
        case measure => have := unhide HL2; simp [intOf]; omega
    · have hv := hv2 (by omega)
      subst hv
      clear hv1 hv2
      go_wp2
      go_ret
      exact ⟨rfl, box_below (unhide HB)⟩

end Go.Proofs.Ytoihlnjcgopdlab

namespace Go.Proofs.Ytoihlnjcgopdlab
open Go.RowKit

theorem Try.infoInt : (Try.prog.info? 3).map (fun i => (i.zero, i.size, i.bytes)) = some (some (.int .i64 0), 1, 8) := by kernel_rfl

/-- A row of the call's own, read as numbers. -/
theorem IntsAt_own {w : World} {B : Nat} {g cap : Nat} {Z : List Int} (h : w.ownsRow B 3 1 (.slice (some ⟨g, 0, none⟩) Z.length cap) Z.length (Z.map (Value.int .i64))) : IntsAt w (.slice (some ⟨g, 0, none⟩) Z.length cap) Z := by
  rcases h.2 with ⟨h', _⟩ | ⟨g', cap', cur, h', _, hg, hnc, hcm, hcs, ht⟩
  · simp at h'
  · cases h'
    refine ⟨_, _, rfl, hnc, by simp, fun x hx => ?_⟩
    cases hx
    refine ⟨fun _ => blk_lt hg, fun i hi => ?_⟩
    have e : (⟨g, 0, none⟩ : Addr).add i = ⟨g, i, none⟩ := by unfold Addr.add; split <;> simp_all
    rw [e, h.cellAt i (by omega)]
    simp [zAt, hi]

theorem set_take_succ (Z : List Int) (k : Nat) (hk : k < Z.length) (R : List Value) (hR : R = (Z.take k).map (Value.int .i64) ++ List.replicate (Z.length - k) (.int .i64 0)) :
    R.set k (.int .i64 (zAt Z k)) = (Z.take (k + 1)).map (Value.int .i64) ++ List.replicate (Z.length - (k + 1)) (.int .i64 0) := by
  subst hR
  have h1 : ((Z.take k).map (Value.int .i64)).length = k := by simp; omega
  rw [List.set_append_right _ _ (by omega), h1, Nat.sub_self]
  obtain ⟨n, hn⟩ : ∃ n, Z.length - k = n + 1 := ⟨Z.length - k - 1, by omega⟩
  rw [hn, List.replicate_succ, List.set_cons_zero, show Z.length - (k + 1) = n by omega]
  rw [List.take_succ_eq_append_getElem hk, List.map_append, List.append_assoc]
  simp [zAt, hk]

set_option maxRecDepth 100000 in
set_option maxHeartbeats 1000000 in
theorem copied_any (v : Value) (Z : List Int) (w : World) (hz : IntsAt w v Z) (hr : Z.length * 8 ≤ 140737488351232) :
    Calls Try.prog 17 #[v] w fun e w' => ∃ u, e = .returned u ∧ IntsAt w' u Z ∧ Below w.heap.size w w' := by
  obtain ⟨i0, hinf, hz0, hzz1, hzz2⟩ := info_parts Try.infoInt
  have HINF := hide hinf
  have HZ0 := hide hz0
  have HZ1 := hide hzz1
  have HZ2 := hide hzz2
  clear hinf hz0 hzz1
  obtain ⟨za, zcap, rfl, hz1, hz2, hz3⟩ := hz
  have HN := hide hz2
  have HC := hide hz3
  clear hz2 hz3
  go_enter Try.func17, Try.ntmps17
  go_wp2_with (at_make; refine wpList_make_full _ rfl _ _ 34 rfl w.heap.size 3 i0 (.int .i64 0) 1 Try.underlying34 (unhide HINF) (unhide HZ0) (unhide HZ1) .i64 .i64 (Z.length : Int) (Z.length : Int) Z.length rfl rfl rfl rfl (by rw [hzz2]; omega) (by unfold maxLen; omega) (Nat.le_refl _) ?_)
  intro w1 hown hgrow
  have HB1 := hide ((Below.refl w.heap.size w).grown hgrow (Nat.le_refl _) (by simp))
  have HOWN := hide hown
  clear hown hgrow hzz2
  go_wp2
  go_loopw [4] (fun i wr => ∃ k : Nat, k ≤ Z.length ∧ i = .int .i64 k ∧ wr.ownsRow w.heap.size 3 1 (.slice (some ⟨w.heap.size, 0, none⟩) Z.length Z.length) Z.length ((Z.take k).map (Value.int .i64) ++ List.replicate (Z.length - k) (.int .i64 0)) ∧ Below w.heap.size w wr) (fun i _ => Z.length - (intOf i).toNat)
  case atStart =>
    refine ⟨0, by omega, rfl, ?_, unhide HB1⟩
    have := unhide HOWN
    rw [toList_madeCells_one] at this
    simpa using this
  case round =>
    obtain ⟨k, hk, rfl, hown, hb⟩ := hrel
    have HO := hide hown
    have HB := hide hb
    by_cases hlt : k < Z.length
    · cases za with
      | none => have := unhide HN rfl; omega
      | some xa =>
        have hzc := ints_cell (unhide HC xa rfl) hb hlt
        have hoc := hown.cellAt k (by omega)
        have hof := hown.frozenAt k
        have hst := hown.stored k (.int .i64 (zAt Z k))
        rw [set_take_succ Z k hlt _ rfl] at hst
        have HST := hide hst
        obtain ⟨ov, hov⟩ : ∃ ov, wr.cell? ⟨w.heap.size, k, none⟩ = some ov := ⟨_, hoc.trans (List.getElem?_eq_getElem (by simp; omega))⟩
        have hi0 : (0 : Int) ≤ (k : Int) := by omega
        have hi1 : (k : Int) < (Z.length : Int) := by omega
        clear hst hoc hown hb
        go_wp2
        go_roundw
        case rel => exact ⟨k + 1, by omega, by go_num, (unhide HST).1, (unhide HB).setCell (Nat.le_refl _) _⟩
        case measure => simp [intOf]; omega
    · have hkz : k = Z.length := by omega
      have HK := hide hkz
      clear hkz hown hb
      go_wp2
      go_ret
      refine ⟨_, rfl, ?_, unhide HB⟩
      have := unhide HO
      rw [unhide HK, List.take_of_length_le (Nat.le_refl _), Nat.sub_self, List.replicate_zero, List.append_nil] at this
      exact IntsAt_own this

end Go.Proofs.Ytoihlnjcgopdlab
