import Derived.Test.YtljodhcfimklkabU2
namespace Go.Proofs.Ytljodhcfimklkab
open Go.RowKit

def AllFits (L : List Sg) : Prop := ∀ k, k < L.length → (sgAt L k).Fits

theorem lay_lt {s : Sg} (ok : s.Ok) (ft : s.Fits) (v : Int) : layTo s.st s.ln s.od v s.ln.toNat < 18446744073709551616 := by
  have h0 := ok.ln0
  exact layTo_lt _ _ _ _ _ (fun i h h' => ⟨place_lo _ _ _ _ ok.st0 h (by omega), ft i h (by omega)⟩)

theorem bitsTo_lt {L : List Sg} {Z : List Int} {c : Int} (hg : Good L) (hf : AllFits L) : ∀ k, k ≤ L.length → bitsTo L Z c k < 18446744073709551616 := by
  intro k
  induction k with
  | zero => intro _; simp [bitsTo]
  | succ k ih =>
    intro hk
    have h1 := ih (by omega)
    rw [bitsTo]
    split
    · have h2 := lay_lt (hg.2 k (by omega)).1 (hf k (by omega)) (Z.getD k 0)
      have e : (18446744073709551616 : Nat) = 2 ^ 64 := rfl
      rw [e] at h1 h2 ⊢
      exact Nat.or_lt_two_pow h1 h2
    · exact h1

theorem bits_step {L : List Sg} {Z : List Int} {c : Int} {k : Nat} (hg : Good L) (hf : AllFits L) (hk : k < L.length) (ha : activeB (sgAt L k).rl c = true) :
    bits BinOp.or IntKind.u64 (bitsTo L Z c k : Int) (layTo (sgAt L k).st (sgAt L k).ln (sgAt L k).od (zAt Z k) (sgAt L k).ln.toNat : Int) = (bitsTo L Z c (k + 1) : Nat) := by
  rw [u64_or_nat _ _ (bitsTo_lt hg hf k (by omega)) (lay_lt (hg.2 k hk).1 (hf k hk) _), bitsTo, if_pos ha]
  rfl
theorem bits_stay {L : List Sg} {Z : List Int} {c : Int} {k : Nat} (ha : activeB (sgAt L k).rl c = false) : bitsTo L Z c (k + 1) = bitsTo L Z c k := by
  rw [bitsTo, ha]; rfl

set_option maxRecDepth 100000 in
set_option maxHeartbeats 1000000 in
theorem packBits_any (v vz : Value) (L : List Sg) (Z : List Int) (c : Int) (w : World) (h : SigsAt w v L) (hz : IntsAt w vz Z) (hlen : Z.length = L.length) (hg : Good L) (hf : AllFits L) :
    Calls Try.prog 14 #[v, vz, .int .i64 c] w fun e w' => e = .returned (.int .u64 (bitsTo L Z c L.length)) ∧ Below w.heap.size w w' := by
  have hl := hg.1
  have HG := hide hg
  have HF := hide hf
  clear hg hf
  rcases h.opened with ⟨rfl, a, cc, rfl⟩ | ⟨g, cap, rfl, hgl, hcap, hcm, hc⟩
  · obtain ⟨za, zcap, rfl, hz1, hz2, hz3⟩ := hz
    clear hz3 hz2
    go_enter Try.func14, Try.ntmps14
    go_wp2
    refine wp_loop_rounds 1 ?_
    rw [rounds_succ]
    go_wp2
    go_ret
    exact ⟨ret_u64 (by simp [bitsTo]), Below.refl _ _⟩
  · obtain ⟨za, zcap, rfl, hz1, hz2, hz3⟩ := hz
    have HC := hide hc
    have HZ2 := hide hz2
    have HZ3 := hide hz3
    have hle1 : Z.length ≤ L.length := by omega
    have hle2 : L.length ≤ Z.length := by omega
    clear hc hz2 hz3 hlen h
    cases za with
    | none =>
      have h0 := unhide HZ2 rfl
      have hl0 : L.length ≤ 0 := by omega
      clear h0
      go_enter Try.func14, Try.ntmps14
      go_wp2
      refine wp_loop_rounds 1 ?_
      rw [rounds_succ]
      go_wp2
      go_ret
      exact ⟨ret_u64 (by have : L.length = 0 := by omega
                         rw [this]; rfl), Below.refl _ _⟩
    | some x =>
      have HX := hide (unhide HZ3 x rfl)
      go_enter Try.func14, Try.ntmps14
      go_wp2
      go_loopw [7, 8, 9] (fun b i _ wr => ∃ k : Nat, k ≤ L.length ∧ i = .int .i64 k ∧ b = .int .u64 (bitsTo L Z c k) ∧ Below w.heap.size w wr) (fun _ i _ _ => L.length - (intOf i).toNat)
      case atStart => exact ⟨0, by omega, rfl, rfl, Below.refl _ _⟩
      case round =>
        obtain ⟨k, hk, rfl, rfl, hb⟩ := hrel
        by_cases hlt : k < L.length
        · have hc7 := fun (wx : World) (h : Below w.heap.size w wx) => cells7 (unhide HC) hgl h hlt
          have hzc := fun (wx : World) (h : Below w.heap.size w wx) => ints_cell (unhide HX) h (show k < Z.length by omega)
          have hi0 : (0 : Int) ≤ (k : Int) := by omega
          have hi1 : (k : Int) < (L.length : Int) := by omega
          have hi2 : (k : Int) < (Z.length : Int) := by omega
          obtain ⟨ok, r0, r1⟩ := (unhide HG).2 k hlt
          have OK := hide ok
          have hcw := hc7 _ hb
          clear ok
          go_wp2_with fail
          refine (isActive_any _ _ _ _ _ _ (sgAt L k).rl c _ r0 r1).mono ?_
          rintro e w2 ⟨rfl, hb2⟩
          have hb2' := hb.trans (hb2.mono hb.size)
          clear hb2 hcw hb
          cases hac : activeB (sgAt L k).rl c with
          | false =>
            have HS := hide (bits_stay (L := L) (Z := Z) hac)
            clear hc7 hzc
            go_wp2
            go_roundw
            case rel => exact ⟨k + 1, by omega, by go_num, by rw [unhide HS], hb2'⟩
            case measure => simp [intOf]; omega
          | true =>
            have HS := hide (bits_step (Z := Z) (unhide HG) (unhide HF) hlt hac)
            go_wp2
            refine wp_region_noPanic ?_
            refine wp_region_held_drew (S := fun w' => Below w.heap.size w w') (by kernel_rfl) hb2'.drew (fun hHeld => ?_)
            refine wpAnyH_take (i := 0) (v := ?_) (at_list rfl) (by kernel_rfl) (by kernel_rfl) (by kernel_rfl) (fun _ _ _ h => h) (Or.inl ⟨by rfl, ?_⟩) (by assumption) ?_
            rotate_left
            · intro w hSw; (try dsimp only at hSw); first | (go_simp; done) | (go_simp; with_reducible rfl)
            try simp only [Act.put]
            try simp only [List.setIfInBounds_toArray]
            try simp only [List.set_cons_succ]
            try simp only [List.set_cons_zero]
            refine wpAnyH_take (i := 1) (v := ?_) (at_list rfl) (by kernel_rfl) (by kernel_rfl) (by kernel_rfl) (fun _ _ _ h => h) (Or.inl ⟨by rfl, ?_⟩) (by assumption) ?_
            rotate_left
            · intro w hSw; (try dsimp only at hSw); first | (go_simp; done) | (go_simp; with_reducible rfl)
            try simp only [Act.put]
            try simp only [List.setIfInBounds_toArray]
            try simp only [List.set_cons_succ]
            try simp only [List.set_cons_zero]
            refine wpAnyH_take (i := 2) (v := ?_) (at_list rfl) (by kernel_rfl) (by kernel_rfl) (by kernel_rfl) (fun _ _ _ h => h) (Or.inl ⟨by rfl, ?_⟩) (by assumption) ?_
            rotate_left
            · intro w hSw; (try dsimp only at hSw); first | (go_simp; done) | (go_simp; with_reducible rfl)
            try simp only [Act.put]
            try simp only [List.setIfInBounds_toArray]
            try simp only [List.set_cons_succ]
            try simp only [List.set_cons_zero]
            refine wpAnyH_take (i := 3) (v := ?_) (at_list rfl) (by kernel_rfl) (by kernel_rfl) (by kernel_rfl) (fun _ _ _ h => h) (Or.inl ⟨by rfl, ?_⟩) (by assumption) ?_
            rotate_left
            · intro w hSw; (try dsimp only at hSw); first | (go_simp; done) | (go_simp; with_reducible rfl)
            try simp only [Act.put]
            try simp only [List.setIfInBounds_toArray]
            try simp only [List.set_cons_succ]
            try simp only [List.set_cons_zero]
            refine wpAnyH_take (i := 4) (v := ?_) (at_list rfl) (by kernel_rfl) (by kernel_rfl) (by kernel_rfl) (fun _ _ _ h => h) (Or.inl ⟨by rfl, ?_⟩) (by assumption) ?_
            rotate_left
            · intro w hSw; (try dsimp only at hSw); first | (go_simp; done) | (go_simp; with_reducible rfl)
            try simp only [Act.put]
            try simp only [List.setIfInBounds_toArray]
            try simp only [List.set_cons_succ]
            try simp only [List.set_cons_zero]
            refine wpAnyH_take (i := 5) (v := ?_) (at_list rfl) (by kernel_rfl) (by kernel_rfl) (by kernel_rfl) (fun _ _ _ h => h) (Or.inl ⟨by rfl, ?_⟩) (by assumption) ?_
            rotate_left
            · intro w hSw; (try dsimp only at hSw); first | (go_simp; done) | (go_simp; with_reducible rfl)
            try simp only [Act.put]
            try simp only [List.setIfInBounds_toArray]
            try simp only [List.set_cons_succ]
            try simp only [List.set_cons_zero]
            refine wpAnyH_take (i := 6) (v := ?_) (at_list rfl) (by kernel_rfl) (by kernel_rfl) (by kernel_rfl) (fun _ _ _ h => h) (Or.inl ⟨by rfl, ?_⟩) (by assumption) ?_
            rotate_left
            · intro w hSw; (try dsimp only at hSw); first | (go_simp; done) | (go_simp; with_reducible rfl)
            try simp only [Act.put]
            try simp only [List.setIfInBounds_toArray]
            try simp only [List.set_cons_succ]
            try simp only [List.set_cons_zero]
            refine wpAnyH_take (i := 7) (v := ?_) (at_list rfl) (by kernel_rfl) (by kernel_rfl) (by kernel_rfl) (fun _ _ _ h => h) (Or.inl ⟨by rfl, ?_⟩) (by assumption) ?_
            rotate_left
            · intro w hSw; (try dsimp only at hSw); first | (go_simp; done) | (go_simp; with_reducible rfl)
            try simp only [Act.put]
            try simp only [List.setIfInBounds_toArray]
            try simp only [List.set_cons_succ]
            try simp only [List.set_cons_zero]
            refine wpAnyH_ready (rs := [8]) (by kernel_rfl) (by simp) ?_
            refine AllReadyH.cons (at_list rfl) (fun K hK => ?_) AllReadyH.nil
            go_simp
            refine (layBits_any _ _ (sgAt L k).st (sgAt L k).ln (sgAt L k).od _ _ (zAt Z k) _ (unhide OK).st0 (unhide OK).st1 (unhide OK).ln0 (unhide OK).ln1 (unhide OK).od (unhide HF k hlt)).mono ?_; rintro e w3 ⟨rfl, hb3⟩; have hb3' := hb3.mono hHeld.size; dsimp only
            refine hK.out _ _ (hHeld.trans hb3') (fun hHeld => ?_)
            clear hK K
            try simp only [Act.put]
            try simp only [List.setIfInBounds_toArray]
            try simp only [List.set_cons_succ]
            try simp only [List.set_cons_zero]
            refine wpAnyH_take (i := 9) (v := ?_) (at_list rfl) (by kernel_rfl) (by kernel_rfl) (by kernel_rfl) (fun _ _ _ h => h) (Or.inl ⟨by rfl, ?_⟩) (by assumption) ?_
            rotate_left
            · intro w hSw; (try dsimp only at hSw); first | (go_simp; done) | (go_simp; with_reducible rfl)
            try simp only [Act.put]
            try simp only [List.setIfInBounds_toArray]
            try simp only [List.set_cons_succ]
            try simp only [List.set_cons_zero]
            refine wpAnyH_done (by kernel_rfl) ?_ _
            refine NoPanic.normal ?_
            clear hc7 hzc hb3 hb3'
            go_wp2
            go_roundw
            case rel => exact ⟨k + 1, by omega, by go_num, by rw [unhide HS], by assumption⟩
            case measure => simp [intOf]; omega
        · have hkk : k = L.length := by omega
          have HK := hide hkk
          clear hkk
          go_wp2
          go_ret
          exact ⟨ret_u64 (by rw [← unhide HK]), hb⟩

theorem Try.infoU8 : (Try.prog.info? 5).map (fun i => (i.zero, i.size, i.bytes)) = some (some (.int .u8 0), 1, 1) := by kernel_rfl

theorem byte_step (N k : Nat) : (N : Int) / 2 ^ (8 * k) % 256 = (byteOf N k : Int) := by
  rw [byteOf]
  have e : ((2 : Int) ^ (8 * k)) = (((2 : Nat) ^ (8 * k) : Nat) : Int) := by simp
  rw [e]; omega

/-- 'string(b)' of a row of the call's own. -/
theorem conv_row {w : World} {B : Nat} {v : Value} {n : Nat} {xs : List Int} (h : w.ownsRow B 5 1 v n (xs.map (Value.int .u8))) :
    (convert 64 9 v).run Try.prog w = .ok (.string (strOfNums xs)) w := by
  have hl := h.1
  rw [List.length_map] at hl
  rcases h.2 with ⟨rfl, rfl⟩ | ⟨g, cap, cur, rfl, _, hg, hnc, _, hcs, ht⟩
  · have hx : xs = [] := List.eq_nil_of_length_eq_zero (by omega)
    subst hx
    exact run_convert_bytes_nil w 64 5 Try.underlying64 Try.underlying5 0 0 9 Try.underlying9
  · refine run_convert_bytes_arg w 64 5 Try.underlying64 Try.underlying5 g 0 n cap xs (by omega) (fun i hi => ?_) 9 Try.underlying9
    rw [cell_of_row w g (0 + i) cur 5 (0, 0) hg, Nat.zero_add]
    have : cur.toList[i]? = (xs.map (Value.int .u8))[i]? := by rw [← ht, List.getElem?_take, if_pos (by omega)]
    rw [Array.getElem?_toList] at this
    rw [this]
    simp [List.getElem?_eq_getElem (show i < xs.length by omega)]

set_option maxRecDepth 100000 in
set_option maxHeartbeats 400000 in
theorem payloadText_any (N : Nat) (n : Nat) (w : World) (hn : n ≤ 8) :
    Calls Try.prog 15 #[.int .u64 N, .int .i64 n] w fun e w' => e = .returned (.string (payB N n)) ∧ Below w.heap.size w w' := by
  obtain ⟨i0, hinf, hz0, hz1, hz2⟩ := info_parts Try.infoU8
  have HINF := hide hinf
  have HZ0 := hide hz0
  have HZ1 := hide hz1
  have HZ2 := hide hz2
  clear hinf hz0 hz1 hz2
  go_enter Try.func15, Try.ntmps15
  go_wp2
  go_loopw [5, 6] (fun v i wr => ∃ k : Nat, k ≤ n ∧ i = .int .i64 k ∧ wr.ownsRow w.heap.size 5 1 v k ((bytesL N k).map (Value.int .u8)) ∧ Below w.heap.size w wr) (fun _ i _ => n - (intOf i).toNat)
  case atStart =>
    exact ⟨0, by omega, rfl, ⟨by simp [bytesL], .inr ⟨w.heap.size, 0, #[], rfl, Nat.le_refl _, blk_new _ _, by simp, by simp [maxLen], by simp, by simp [bytesL]⟩⟩, (Below.refl _ _).alloc (Nat.le_refl _) _⟩
  case round =>
    obtain ⟨k, hk, rfl, hown, hb⟩ := hrel
    obtain ⟨sa, cap, rfl⟩ := ownsRow_form hown
    have HOWN := hide hown
    have HB := hide hb
    clear hown hb
    by_cases hlt : k < n
    · have hbs := byte_step N k
      have HBN := hide (show (0 : Int) ≤ byteOf N k by omega)
      go_wp2_with (at_builtin; refine wpList_append_own _ rfl _ _ 64 rfl w.heap.size 5 i0 _ 1 1 Try.underlying64 (unhide HINF) (unhide HZ0) (unhide HZ1) (unhide HZ2) rfl (by decide) _ _ _ rfl ((unhide HOWN).alloc _) ⟨wr.heap.size, 0, none⟩ 1 1 [.int .u8 (byteOf N k)] rfl rfl ?c1 ?c2 ?c3 ?c4 ?c5 ?_)
      case c1 => exact new_cells (blk_new _ _)
      case c2 => simp [Value.oneCell']
      case c3 => unfold maxLen; omega
      case c4 => omega
      case c5 => have := (unhide HB).size; simp; omega
      intro v3 w3 hown3 hgrow _
      obtain ⟨a3, cap3, rfl⟩ := ownsRow_form hown3
      have HB3 := hide (Below.grown ((unhide HB).alloc (unhide HB).size _) hgrow (by have := (unhide HB).size; simp; omega) (fun k hk => ((unhide HOWN).lt k hk).1))
      have HOWN3 := hide hown3
      clear hown3 hgrow hbs
      go_wp2
      go_roundw
      case rel =>
        refine ⟨k + 1, by omega, by go_num, ?_, unhide HB3⟩
        have := unhide HOWN3
        rw [bytesL_succ, List.map_append]
        exact this
      case measure => simp [intOf]; omega
    · have hkn : k = n := by omega
      have hconv := conv_row (unhide HOWN)
      have HK := hide hkn
      clear hkn
      go_wp2
      go_ret
      exact ⟨by rw [payB, ← unhide HK]; rfl, unhide HB⟩

end Go.Proofs.Ytljodhcfimklkab
