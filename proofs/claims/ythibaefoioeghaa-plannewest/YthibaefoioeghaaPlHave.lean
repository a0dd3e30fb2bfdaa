/-
  Whether the truths of a table may be.
-/
import Derived.Test.YthibaefoioeghaaPlBlocks
namespace Go.Proofs.Ythibaefoioeghaa
open Go.RowKit
def okHv (P : Nat) (D : List Int) (H : List Bool) : Bool := (List.range H.length).all fun i => !(eB H i) || (eI D (i / P) != -1)
theorem okHv_iff {P : Nat} {D : List Int} {H : List Bool} : okHv P D H = true ↔ ∀ i, i < H.length → eB H i = true → eI D (i / P) ≠ -1 := by
  unfold okHv
  rw [List.all_eq_true]
  constructor
  · intro h i hi hb
    have := h i (List.mem_range.2 hi)
    simpa [hb] using this
  · intro h i hi
    have := h i (List.mem_range.1 hi)
    cases hb : eB H i with
    | false => rfl
    | true => simpa [hb] using this hb
set_option linter.unusedSimpArgs false in
set_option maxRecDepth 100000 in
set_option maxHeartbeats 4000000 in
theorem haveMayBe_any (V : TabV) (T : Tab) (P L : Nat) (w : World) (h : TabIn w V T) (hP : T.pages = P) (hP0 : 4 ≤ P ∧ P ≤ 32) (hL : L ≤ 256) (hnd : V.nd = L) (hnh : V.nh = L * P) :
    Calls Try.prog 49 #[.agg (tabA V T)] w fun e w' => e = .returned (.bool (okHv P T.data T.have')) ∧ Below w.heap.size w w' := by
  have hb0 := below_alloc w (.cells (tabA V T) 28)
  have b0 := Blk.new' w 28 (tabA V T)
  have hT := h.below hb0
  unfold tabA at hb0 b0 hT ⊢
  rw [hP] at hb0 b0 hT ⊢
  have HLD : Hid (T.data.length = V.nd) := hT.data.len
  have HLH : Hid (T.have'.length = V.nh) := hT.have'.len
  have hnh2 : V.nh ≤ 8192 := by rw [hnh]; exact Nat.le_trans (Nat.mul_le_mul hL hP0.2) (by omega)
  have hnd2 : V.nd ≤ 256 := by omega
  have HDV : Hid (∀ k, k < V.nh → k / P < V.nd) := fun k hk => by rw [hnd]; rw [hnh] at hk; exact (Nat.div_lt_iff_lt_mul (by omega)).2 hk
  have hPz : ((P : Int) == 0) = false := by rw [beq_eq_false_iff_ne]; omega
  have HP0 : Hid (4 ≤ P ∧ P ≤ 32) := hP0
  clear hP hP0 hnd hnh h
  go_enter Try.func49, Try.ntmps49
  go_upto_region 1 with fail
  generalize hW : w.alloc (.cells #[.int .i64 (P : Int), .int .i64 T.logical, .int .i64 T.k, .slice V.pd V.nd V.cd, .slice V.ph V.nh V.ch, .int .i64 T.sp, .int .i64 T.sl, .int .i64 T.su, .slice V.pl V.nl V.cl] 28) = W at *
  clear hW
  have z0 := b0.cell' (i := 0) rfl
  have z3 := b0.cell' (i := 3) rfl
  have z4 := b0.cell' (i := 4) rfl
  go_wp2_with fail
  go_loopw [8] (fun i wr => ∃ k : Nat, k ≤ V.nh ∧ i = .int .i64 k ∧ (∃ j, wr = W.drewN j) ∧ ∀ i, i < k → eB T.have' i = true → eI T.data (i / P) ≠ -1) (fun i _ => V.nh - (intOf i).toNat)
  case atStart => exact ⟨0, Nat.zero_le _, rfl, ⟨0, rfl⟩, fun i h => by omega⟩
  case round =>
    obtain ⟨k, hk, rfl, ⟨j, rfl⟩, hall⟩ := hrel
    have HA : Hid (∀ i, i < k → eB T.have' i = true → eI T.data (i / P) ≠ -1) := hall
    clear hall
    by_cases hlt : k < V.nh
    · obtain ⟨bh, oh, hph, _, hch⟩ := hT.have'.at' (by omega)
      have ck := hch k hlt
      have hkd := HDV.out k hlt
      obtain ⟨bd, od, hpd, _, hcd⟩ := hT.data.at' (Nat.lt_of_le_of_lt (Nat.zero_le _) hkd)
      have cd := hcd (k / P) hkd
      have hk1 : (k : Int) < (V.nh : Int) := by omega
      obtain ⟨q, hq⟩ : ∃ q, k / P = q := ⟨_, rfl⟩
      have hqk : q ≤ k := by rw [← hq]; exact Nat.div_le_self k P
      have hPn : ¬ P = 0 := by have := HP0.out; omega
      have hq1 : IntKind.i64.wrap ((k : Int) / (P : Int)) = (q : Int) := by rw [← Int.natCast_ediv, hq]; exact wrapN q (by omega)
      have hq2 : wrap64 ((k : Int) / (P : Int)) = (q : Int) := (IntWalk.i64_left _).symm.trans hq1
      rw [hq] at cd hkd
      have hqd : (q : Int) < (V.nd : Int) := Int.ofNat_lt.2 hkd
      have HQ : Hid (k / P = q) := hq
      clear hq hcd hch
      rw [hph]
      rw [hpd] at z3
      cases hb : eB T.have' k with
      | false =>
        have HB : Hid (eB T.have' k = false) := hb
        rw [hb] at ck
        clear hb
        go_wp2
        go_quiet (fail)
        go_wp2
        clear hq1 hq2
        go_roundw
        case rel =>
          refine ⟨k + 1, by omega, by go_num, ⟨_, rfl⟩, fun i hi hbi => ?_⟩
          rcases Nat.lt_succ_iff_lt_or_eq.1 hi with h' | h'
          · exact HA.out i h' hbi
          · rw [h', HB.out] at hbi; cases hbi
        case measure => simp [intOf]; omega
      | true =>
        have HB : Hid (eB T.have' k = true) := hb
        rw [hb] at ck
        clear hb
        by_cases hx : eI T.data q = -1
        · have HN : Hid (okHv P T.data T.have' = false) := by
            show _ = _
            cases hh : okHv P T.data T.have' with
            | false => rfl
            | true => exact absurd (by rw [HQ.out]; exact hx) (okHv_iff.1 hh k (by rw [HLH.out]; exact hlt) HB.out)
          rw [hx] at cd
          clear hx
          go_wp2_with fail
          refine wp_region_noPanic ?_
          refine wp_region_held_drew (S := fun w' => ∃ n, w' = W.drewN n) (by kernel_rfl) ⟨j + 1, rfl⟩ (fun hHeld => ?_)
          refine wpAnyH_take (i := 0) (v := ?_) rfl (by kernel_rfl) (by kernel_rfl) (by kernel_rfl) (fun _ _ _ h => h) (Or.inl ⟨by rfl, ?_⟩) hHeld ?_
          rotate_left
          · intro w' hSw; try dsimp only at hSw
            obtain ⟨n', rfl⟩ := hSw
            go_simp; try (with_reducible rfl)
          try simp only [Act.put, List.getElem_toArray, List.getElem_cons_succ, List.getElem_cons_zero, List.setIfInBounds_toArray, List.set_cons_zero, List.set_cons_succ]
          refine wpAnyH_take (i := 1) (v := ?_) rfl (by kernel_rfl) (by kernel_rfl) (by kernel_rfl) (fun _ _ _ h => h) (Or.inl ⟨by rfl, ?_⟩) hHeld ?_
          rotate_left
          · intro w' hSw; try dsimp only at hSw
            obtain ⟨n', rfl⟩ := hSw
            go_simp; try (with_reducible rfl)
          try simp only [Act.put, List.getElem_toArray, List.getElem_cons_succ, List.getElem_cons_zero, List.setIfInBounds_toArray, List.set_cons_zero, List.set_cons_succ]
          refine wpAnyH_take (i := 2) (v := ?_) rfl (by kernel_rfl) (by kernel_rfl) (by kernel_rfl) (fun _ _ _ h => h) (Or.inl ⟨by rfl, ?_⟩) hHeld ?_
          rotate_left
          · intro w' hSw; try dsimp only at hSw
            obtain ⟨n', rfl⟩ := hSw
            go_simp; try (with_reducible rfl)
          try simp only [Act.put, List.getElem_toArray, List.getElem_cons_succ, List.getElem_cons_zero, List.setIfInBounds_toArray, List.set_cons_zero, List.set_cons_succ]
          refine wpAnyH_take (i := 3) (v := ?_) rfl (by kernel_rfl) (by kernel_rfl) (by kernel_rfl) (fun _ _ _ h => h) (Or.inl ⟨by rfl, ?_⟩) hHeld ?_
          rotate_left
          · intro w' hSw; try dsimp only at hSw
            obtain ⟨n', rfl⟩ := hSw
            go_simp; try (with_reducible rfl)
          try simp only [Act.put, List.getElem_toArray, List.getElem_cons_succ, List.getElem_cons_zero, List.setIfInBounds_toArray, List.set_cons_zero, List.set_cons_succ]
          refine wpAnyH_take (i := 4) (v := ?_) rfl (by kernel_rfl) (by kernel_rfl) (by kernel_rfl) (fun _ _ _ h => h) (Or.inl ⟨by rfl, ?_⟩) hHeld ?_
          rotate_left
          · intro w' hSw; try dsimp only at hSw
            obtain ⟨n', rfl⟩ := hSw
            go_simp; try (with_reducible rfl)
          try simp only [Act.put, List.getElem_toArray, List.getElem_cons_succ, List.getElem_cons_zero, List.setIfInBounds_toArray, List.set_cons_zero, List.set_cons_succ]
          refine wpAnyH_take (i := 5) (v := ?_) rfl (by kernel_rfl) (by kernel_rfl) (by kernel_rfl) (fun _ _ _ h => h) (Or.inl ⟨by rfl, ?_⟩) hHeld ?_
          rotate_left
          · intro w' hSw; try dsimp only at hSw
            obtain ⟨n', rfl⟩ := hSw
            go_simp; try (with_reducible rfl)
          try simp only [Act.put, List.getElem_toArray, List.getElem_cons_succ, List.getElem_cons_zero, List.setIfInBounds_toArray, List.set_cons_zero, List.set_cons_succ]
          refine wpAnyH_take (i := 6) (v := ?_) rfl (by kernel_rfl) (by kernel_rfl) (by kernel_rfl) (fun _ _ _ h => h) (Or.inl ⟨by rfl, ?_⟩) hHeld ?_
          rotate_left
          · intro w' hSw; try dsimp only at hSw
            obtain ⟨n', rfl⟩ := hSw
            go_simp; try (with_reducible rfl)
          try simp only [Act.put, List.getElem_toArray, List.getElem_cons_succ, List.getElem_cons_zero, List.setIfInBounds_toArray, List.set_cons_zero, List.set_cons_succ]
          refine wpAnyH_take (i := 7) (v := ?_) rfl (by kernel_rfl) (by kernel_rfl) (by kernel_rfl) (fun _ _ _ h => h) (Or.inl ⟨by rfl, ?_⟩) hHeld ?_
          rotate_left
          · intro w' hSw; try dsimp only at hSw
            obtain ⟨n', rfl⟩ := hSw
            go_simp; try (with_reducible rfl)
          try simp only [Act.put, List.getElem_toArray, List.getElem_cons_succ, List.getElem_cons_zero, List.setIfInBounds_toArray, List.set_cons_zero, List.set_cons_succ]
          refine wpAnyH_take (i := 8) (v := ?_) rfl (by kernel_rfl) (by kernel_rfl) (by kernel_rfl) (fun _ _ _ h => h) (Or.inl ⟨by rfl, ?_⟩) hHeld ?_
          rotate_left
          · intro w' hSw; try dsimp only at hSw
            obtain ⟨n', rfl⟩ := hSw
            go_simp; try (with_reducible rfl)
          try simp only [Act.put, List.getElem_toArray, List.getElem_cons_succ, List.getElem_cons_zero, List.setIfInBounds_toArray, List.set_cons_zero, List.set_cons_succ]
          refine wpAnyH_take (i := 9) (v := ?_) rfl (by kernel_rfl) (by kernel_rfl) (by kernel_rfl) (fun _ _ _ h => h) (Or.inl ⟨by rfl, ?_⟩) hHeld ?_
          rotate_left
          · intro w' hSw; try dsimp only at hSw
            obtain ⟨n', rfl⟩ := hSw
            go_simp; try (with_reducible rfl)
          try simp only [Act.put, List.getElem_toArray, List.getElem_cons_succ, List.getElem_cons_zero, List.setIfInBounds_toArray, List.set_cons_zero, List.set_cons_succ]
          refine wpAnyH_take (i := 10) (v := ?_) rfl (by kernel_rfl) (by kernel_rfl) (by kernel_rfl) (fun _ _ _ h => h) (Or.inl ⟨by rfl, ?_⟩) hHeld ?_
          rotate_left
          · intro w' hSw; try dsimp only at hSw
            obtain ⟨n', rfl⟩ := hSw
            go_simp; try (with_reducible rfl)
          try simp only [Act.put, List.getElem_toArray, List.getElem_cons_succ, List.getElem_cons_zero, List.setIfInBounds_toArray, List.set_cons_zero, List.set_cons_succ]
          refine wpAnyH_take (i := 11) (v := ?_) rfl (by kernel_rfl) (by kernel_rfl) (by kernel_rfl) (fun _ _ _ h => h) (Or.inl ⟨by rfl, ?_⟩) hHeld ?_
          rotate_left
          · intro w' hSw; try dsimp only at hSw
            obtain ⟨n', rfl⟩ := hSw
            go_simp; try (with_reducible rfl)
          try simp only [Act.put, List.getElem_toArray, List.getElem_cons_succ, List.getElem_cons_zero, List.setIfInBounds_toArray, List.set_cons_zero, List.set_cons_succ]
          refine wpAnyH_done (by kernel_rfl) ?_ _
          refine NoPanic.normal ?_
          go_wp2
          go_ret
          exact ⟨ret_bool HN.out.symm, (below_drewN hb0 _).drew⟩
        · have hx' : (eI T.data q == -1) = false := by simpa using hx
          have HX : Hid (eI T.data (k / P) ≠ -1) := by show _ ≠ _; rw [HQ.out]; exact hx
          clear hx
          go_wp2_with fail
          refine wp_region_noPanic ?_
          refine wp_region_held_drew (S := fun w' => ∃ n, w' = W.drewN n) (by kernel_rfl) ⟨j + 1, rfl⟩ (fun hHeld => ?_)
          refine wpAnyH_take (i := 0) (v := ?_) rfl (by kernel_rfl) (by kernel_rfl) (by kernel_rfl) (fun _ _ _ h => h) (Or.inl ⟨by rfl, ?_⟩) hHeld ?_
          rotate_left
          · intro w' hSw; try dsimp only at hSw
            obtain ⟨n', rfl⟩ := hSw
            go_simp; try (with_reducible rfl)
          try simp only [Act.put, List.getElem_toArray, List.getElem_cons_succ, List.getElem_cons_zero, List.setIfInBounds_toArray, List.set_cons_zero, List.set_cons_succ]
          refine wpAnyH_take (i := 1) (v := ?_) rfl (by kernel_rfl) (by kernel_rfl) (by kernel_rfl) (fun _ _ _ h => h) (Or.inl ⟨by rfl, ?_⟩) hHeld ?_
          rotate_left
          · intro w' hSw; try dsimp only at hSw
            obtain ⟨n', rfl⟩ := hSw
            go_simp; try (with_reducible rfl)
          try simp only [Act.put, List.getElem_toArray, List.getElem_cons_succ, List.getElem_cons_zero, List.setIfInBounds_toArray, List.set_cons_zero, List.set_cons_succ]
          refine wpAnyH_take (i := 2) (v := ?_) rfl (by kernel_rfl) (by kernel_rfl) (by kernel_rfl) (fun _ _ _ h => h) (Or.inl ⟨by rfl, ?_⟩) hHeld ?_
          rotate_left
          · intro w' hSw; try dsimp only at hSw
            obtain ⟨n', rfl⟩ := hSw
            go_simp; try (with_reducible rfl)
          try simp only [Act.put, List.getElem_toArray, List.getElem_cons_succ, List.getElem_cons_zero, List.setIfInBounds_toArray, List.set_cons_zero, List.set_cons_succ]
          refine wpAnyH_take (i := 3) (v := ?_) rfl (by kernel_rfl) (by kernel_rfl) (by kernel_rfl) (fun _ _ _ h => h) (Or.inl ⟨by rfl, ?_⟩) hHeld ?_
          rotate_left
          · intro w' hSw; try dsimp only at hSw
            obtain ⟨n', rfl⟩ := hSw
            go_simp; try (with_reducible rfl)
          try simp only [Act.put, List.getElem_toArray, List.getElem_cons_succ, List.getElem_cons_zero, List.setIfInBounds_toArray, List.set_cons_zero, List.set_cons_succ]
          refine wpAnyH_take (i := 4) (v := ?_) rfl (by kernel_rfl) (by kernel_rfl) (by kernel_rfl) (fun _ _ _ h => h) (Or.inl ⟨by rfl, ?_⟩) hHeld ?_
          rotate_left
          · intro w' hSw; try dsimp only at hSw
            obtain ⟨n', rfl⟩ := hSw
            go_simp; try (with_reducible rfl)
          try simp only [Act.put, List.getElem_toArray, List.getElem_cons_succ, List.getElem_cons_zero, List.setIfInBounds_toArray, List.set_cons_zero, List.set_cons_succ]
          refine wpAnyH_take (i := 5) (v := ?_) rfl (by kernel_rfl) (by kernel_rfl) (by kernel_rfl) (fun _ _ _ h => h) (Or.inl ⟨by rfl, ?_⟩) hHeld ?_
          rotate_left
          · intro w' hSw; try dsimp only at hSw
            obtain ⟨n', rfl⟩ := hSw
            go_simp; try (with_reducible rfl)
          try simp only [Act.put, List.getElem_toArray, List.getElem_cons_succ, List.getElem_cons_zero, List.setIfInBounds_toArray, List.set_cons_zero, List.set_cons_succ]
          refine wpAnyH_take (i := 6) (v := ?_) rfl (by kernel_rfl) (by kernel_rfl) (by kernel_rfl) (fun _ _ _ h => h) (Or.inl ⟨by rfl, ?_⟩) hHeld ?_
          rotate_left
          · intro w' hSw; try dsimp only at hSw
            obtain ⟨n', rfl⟩ := hSw
            go_simp; try (with_reducible rfl)
          try simp only [Act.put, List.getElem_toArray, List.getElem_cons_succ, List.getElem_cons_zero, List.setIfInBounds_toArray, List.set_cons_zero, List.set_cons_succ]
          refine wpAnyH_take (i := 7) (v := ?_) rfl (by kernel_rfl) (by kernel_rfl) (by kernel_rfl) (fun _ _ _ h => h) (Or.inl ⟨by rfl, ?_⟩) hHeld ?_
          rotate_left
          · intro w' hSw; try dsimp only at hSw
            obtain ⟨n', rfl⟩ := hSw
            go_simp; try (with_reducible rfl)
          try simp only [Act.put, List.getElem_toArray, List.getElem_cons_succ, List.getElem_cons_zero, List.setIfInBounds_toArray, List.set_cons_zero, List.set_cons_succ]
          refine wpAnyH_take (i := 8) (v := ?_) rfl (by kernel_rfl) (by kernel_rfl) (by kernel_rfl) (fun _ _ _ h => h) (Or.inl ⟨by rfl, ?_⟩) hHeld ?_
          rotate_left
          · intro w' hSw; try dsimp only at hSw
            obtain ⟨n', rfl⟩ := hSw
            go_simp; try (with_reducible rfl)
          try simp only [Act.put, List.getElem_toArray, List.getElem_cons_succ, List.getElem_cons_zero, List.setIfInBounds_toArray, List.set_cons_zero, List.set_cons_succ]
          refine wpAnyH_take (i := 9) (v := ?_) rfl (by kernel_rfl) (by kernel_rfl) (by kernel_rfl) (fun _ _ _ h => h) (Or.inl ⟨by rfl, ?_⟩) hHeld ?_
          rotate_left
          · intro w' hSw; try dsimp only at hSw
            obtain ⟨n', rfl⟩ := hSw
            go_simp; try (with_reducible rfl)
          try simp only [Act.put, List.getElem_toArray, List.getElem_cons_succ, List.getElem_cons_zero, List.setIfInBounds_toArray, List.set_cons_zero, List.set_cons_succ]
          refine wpAnyH_take (i := 10) (v := ?_) rfl (by kernel_rfl) (by kernel_rfl) (by kernel_rfl) (fun _ _ _ h => h) (Or.inl ⟨by rfl, ?_⟩) hHeld ?_
          rotate_left
          · intro w' hSw; try dsimp only at hSw
            obtain ⟨n', rfl⟩ := hSw
            go_simp; try (with_reducible rfl)
          try simp only [Act.put, List.getElem_toArray, List.getElem_cons_succ, List.getElem_cons_zero, List.setIfInBounds_toArray, List.set_cons_zero, List.set_cons_succ]
          refine wpAnyH_take (i := 11) (v := ?_) rfl (by kernel_rfl) (by kernel_rfl) (by kernel_rfl) (fun _ _ _ h => h) (Or.inl ⟨by rfl, ?_⟩) hHeld ?_
          rotate_left
          · intro w' hSw; try dsimp only at hSw
            obtain ⟨n', rfl⟩ := hSw
            go_simp; try (with_reducible rfl)
          try simp only [Act.put, List.getElem_toArray, List.getElem_cons_succ, List.getElem_cons_zero, List.setIfInBounds_toArray, List.set_cons_zero, List.set_cons_succ]
          refine wpAnyH_done (by kernel_rfl) ?_ _
          refine NoPanic.normal ?_
          go_wp2
          clear hq1 hq2
          go_roundw
          case rel =>
            refine ⟨k + 1, by omega, by go_num, ⟨j + 1, rfl⟩, fun i hi hbi => ?_⟩
            rcases Nat.lt_succ_iff_lt_or_eq.1 hi with h' | h'
            · exact HA.out i h' hbi
            · rw [h']; exact HX.out
          case measure => simp [intOf]; omega
    · obtain rfl : k = V.nh := by omega
      have HN : Hid (okHv P T.data T.have' = true) := okHv_iff.2 (fun i hi hb => HA.out i (by rw [HLH.out] at hi; exact hi) hb)
      go_wp2
      go_ret
      exact ⟨ret_bool HN.out.symm, below_drewN hb0 _⟩
end Go.Proofs.Ythibaefoioeghaa
