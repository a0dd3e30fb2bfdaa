/-
  The law's PlanNewest: every call says true.
-/
import Derived.Test.YthibaefoioeghaaPlNwP
namespace Go.Proofs.Ythibaefoioeghaa
open Go.RowKit
set_option linter.unusedSimpArgs false in
set_option linter.unusedVariables false in
set_option maxRecDepth 100000 in
set_option maxHeartbeats 8000000 in
theorem newest_walk (V : TabV) (T : Tab) (kind blk n phys : Int) (w : World) (h : TabIn w V T) :
    Calls Try.prog 5 #[.agg #[.int .i64 T.pages, .int .i64 T.logical, .int .i64 T.k, .slice V.pd V.nd V.cd, .slice V.ph V.nh V.ch, .int .i64 T.sp, .int .i64 T.sl, .int .i64 T.su, .slice V.pl V.nl V.cl, .int .i64 kind, .int .i64 blk, .int .i64 n, .int .i64 phys]] w fun e w' => e = .returned (.bool true) ∧ Below w.heap.size w w' := by
  have hb0 := below_alloc w (.cells #[.int .i64 T.pages, .int .i64 T.logical, .int .i64 T.k, .slice V.pd V.nd V.cd, .slice V.ph V.nh V.ch, .int .i64 T.sp, .int .i64 T.sl, .int .i64 T.su, .slice V.pl V.nl V.cl, .int .i64 kind, .int .i64 blk, .int .i64 n, .int .i64 phys] 47)
  have b0 := Blk.new' w 47 #[.int .i64 T.pages, .int .i64 T.logical, .int .i64 T.k, .slice V.pd V.nd V.cd, .slice V.ph V.nh V.ch, .int .i64 T.sp, .int .i64 T.sl, .int .i64 T.su, .slice V.pl V.nl V.cl, .int .i64 kind, .int .i64 blk, .int .i64 n, .int .i64 phys]
  have hlive := fun w => live_any w
  go_enter Try.func5, Try.ntmps5
  go_upto_region 3 with (go_at_call 7; refine (hlive _).mono ?_; rintro e w1 ⟨rfl, k1⟩)
  have h1 := b0.kept k1
  have hb1 := bt hb0 k1
  clear b0 hb0 hlive k1
  go_cut [3, 4, 5, 6] from 21 (fun s3 s4 s5 s6 wc => ∃ g3 g4, s3 = .pointer (some ⟨g3, 0, none⟩) ∧ s4 = .pointer (some ⟨g4, 0, none⟩) ∧ s5 = .int .i64 n ∧ s6 = .int .i64 phys ∧ Blk wc g3 28 (tabC V T) ∧ Blk wc g4 30 [.int .i64 kind, .int .i64 blk] ∧ Below w.heap.size w wc ∧ w.heap.size ≤ g3 ∧ w.heap.size ≤ g4)
  case first =>
    refine wp_region_noPanic ?_
    refine wp_region_held_drew (S := fun W' => Blk W' w.heap.size 47 [.int .i64 T.pages, .int .i64 T.logical, .int .i64 T.k, .slice V.pd V.nd V.cd, .slice V.ph V.nh V.ch, .int .i64 T.sp, .int .i64 T.sl, .int .i64 T.su, .slice V.pl V.nl V.cl, .int .i64 kind, .int .i64 blk, .int .i64 n, .int .i64 phys] ∧ Below w.heap.size w W') (by kernel_rfl) ⟨h1.drew, hb1.drew⟩ (fun hHeld => ?_)
    clear h1 hb1
    generalize w1.drew = W0 at *
    refine wpAnyH_take (i := 0) (v := ?_) rfl (by kernel_rfl) (by kernel_rfl) (by kernel_rfl) (fun _ _ _ h => h) (Or.inl ⟨by rfl, ?_⟩) hHeld ?_
    rotate_left
    · intro w' hSw; try dsimp only at hSw
      go_simp; try (with_reducible rfl)
    try simp only [Act.put, List.getElem_toArray, List.getElem_cons_succ, List.getElem_cons_zero, List.setIfInBounds_toArray, List.set_cons_zero, List.set_cons_succ]
    refine wpAnyH_take (i := 1) (v := ?_) rfl (by kernel_rfl) (by kernel_rfl) (by kernel_rfl) (fun _ _ _ h => h) (Or.inl ⟨by rfl, ?_⟩) hHeld ?_
    rotate_left
    · intro w' hSw; try dsimp only at hSw
      have z0 := hSw.1.cell' (i := 0) rfl; have z1 := hSw.1.cell' (i := 1) rfl; have z2 := hSw.1.cell' (i := 2) rfl; have z3 := hSw.1.cell' (i := 3) rfl; have z4 := hSw.1.cell' (i := 4) rfl; have z5 := hSw.1.cell' (i := 5) rfl; have z6 := hSw.1.cell' (i := 6) rfl; have z7 := hSw.1.cell' (i := 7) rfl; have z8 := hSw.1.cell' (i := 8) rfl; have z9 := hSw.1.cell' (i := 9) rfl; have z10 := hSw.1.cell' (i := 10) rfl; have z11 := hSw.1.cell' (i := 11) rfl; have z12 := hSw.1.cell' (i := 12) rfl
      go_simp; try (with_reducible rfl)
    try simp only [Act.put, List.getElem_toArray, List.getElem_cons_succ, List.getElem_cons_zero, List.setIfInBounds_toArray, List.set_cons_zero, List.set_cons_succ]
    refine wpAnyH_take (i := 2) (v := ?_) rfl (by kernel_rfl) (by kernel_rfl) (by kernel_rfl) (fun _ _ _ h => h) (Or.inl ⟨by rfl, ?_⟩) hHeld ?_
    rotate_left
    · intro w' hSw; try dsimp only at hSw
      go_simp; try (with_reducible rfl)
    try simp only [Act.put, List.getElem_toArray, List.getElem_cons_succ, List.getElem_cons_zero, List.setIfInBounds_toArray, List.set_cons_zero, List.set_cons_succ]
    refine wpAnyH_take (i := 3) (v := ?_) rfl (by kernel_rfl) (by kernel_rfl) (by kernel_rfl) (fun _ _ _ h => h) (Or.inl ⟨by rfl, ?_⟩) hHeld ?_
    rotate_left
    · intro w' hSw; try dsimp only at hSw
      have z0 := hSw.1.cell' (i := 0) rfl; have z1 := hSw.1.cell' (i := 1) rfl; have z2 := hSw.1.cell' (i := 2) rfl; have z3 := hSw.1.cell' (i := 3) rfl; have z4 := hSw.1.cell' (i := 4) rfl; have z5 := hSw.1.cell' (i := 5) rfl; have z6 := hSw.1.cell' (i := 6) rfl; have z7 := hSw.1.cell' (i := 7) rfl; have z8 := hSw.1.cell' (i := 8) rfl; have z9 := hSw.1.cell' (i := 9) rfl; have z10 := hSw.1.cell' (i := 10) rfl; have z11 := hSw.1.cell' (i := 11) rfl; have z12 := hSw.1.cell' (i := 12) rfl
      go_simp; try (with_reducible rfl)
    try simp only [Act.put, List.getElem_toArray, List.getElem_cons_succ, List.getElem_cons_zero, List.setIfInBounds_toArray, List.set_cons_zero, List.set_cons_succ]
    refine wpAnyH_take (i := 4) (v := ?_) rfl (by kernel_rfl) (by kernel_rfl) (by kernel_rfl) (fun _ _ _ h => h) (Or.inl ⟨by rfl, ?_⟩) hHeld ?_
    rotate_left
    · intro w' hSw; try dsimp only at hSw
      go_simp; try (with_reducible rfl)
    try simp only [Act.put, List.getElem_toArray, List.getElem_cons_succ, List.getElem_cons_zero, List.setIfInBounds_toArray, List.set_cons_zero, List.set_cons_succ]
    refine wpAnyH_take (i := 5) (v := ?_) rfl (by kernel_rfl) (by kernel_rfl) (by kernel_rfl) (fun _ _ _ h => h) (Or.inl ⟨by rfl, ?_⟩) hHeld ?_
    rotate_left
    · intro w' hSw; try dsimp only at hSw
      have z0 := hSw.1.cell' (i := 0) rfl; have z1 := hSw.1.cell' (i := 1) rfl; have z2 := hSw.1.cell' (i := 2) rfl; have z3 := hSw.1.cell' (i := 3) rfl; have z4 := hSw.1.cell' (i := 4) rfl; have z5 := hSw.1.cell' (i := 5) rfl; have z6 := hSw.1.cell' (i := 6) rfl; have z7 := hSw.1.cell' (i := 7) rfl; have z8 := hSw.1.cell' (i := 8) rfl; have z9 := hSw.1.cell' (i := 9) rfl; have z10 := hSw.1.cell' (i := 10) rfl; have z11 := hSw.1.cell' (i := 11) rfl; have z12 := hSw.1.cell' (i := 12) rfl
      go_simp; try (with_reducible rfl)
    try simp only [Act.put, List.getElem_toArray, List.getElem_cons_succ, List.getElem_cons_zero, List.setIfInBounds_toArray, List.set_cons_zero, List.set_cons_succ]
    refine wpAnyH_take (i := 6) (v := ?_) rfl (by kernel_rfl) (by kernel_rfl) (by kernel_rfl) (fun _ _ _ h => h) (Or.inl ⟨by rfl, ?_⟩) hHeld ?_
    rotate_left
    · intro w' hSw; try dsimp only at hSw
      go_simp; try (with_reducible rfl)
    try simp only [Act.put, List.getElem_toArray, List.getElem_cons_succ, List.getElem_cons_zero, List.setIfInBounds_toArray, List.set_cons_zero, List.set_cons_succ]
    refine wpAnyH_take (i := 7) (v := ?_) rfl (by kernel_rfl) (by kernel_rfl) (by kernel_rfl) (fun _ _ _ h => h) (Or.inl ⟨by rfl, ?_⟩) hHeld ?_
    rotate_left
    · intro w' hSw; try dsimp only at hSw
      have z0 := hSw.1.cell' (i := 0) rfl; have z1 := hSw.1.cell' (i := 1) rfl; have z2 := hSw.1.cell' (i := 2) rfl; have z3 := hSw.1.cell' (i := 3) rfl; have z4 := hSw.1.cell' (i := 4) rfl; have z5 := hSw.1.cell' (i := 5) rfl; have z6 := hSw.1.cell' (i := 6) rfl; have z7 := hSw.1.cell' (i := 7) rfl; have z8 := hSw.1.cell' (i := 8) rfl; have z9 := hSw.1.cell' (i := 9) rfl; have z10 := hSw.1.cell' (i := 10) rfl; have z11 := hSw.1.cell' (i := 11) rfl; have z12 := hSw.1.cell' (i := 12) rfl
      go_simp; try (with_reducible rfl)
    try simp only [Act.put, List.getElem_toArray, List.getElem_cons_succ, List.getElem_cons_zero, List.setIfInBounds_toArray, List.set_cons_zero, List.set_cons_succ]
    refine wpAnyH_ready (rs := [8, 9]) (by kernel_rfl) (by simp) ?_
    refine AllReadyH.cons rfl (fun K hK => ?_) ?_
    · have hOld := hHeld
      go_simp
      refine hK.out _ _ ⟨hHeld.1.alloc _, bt hHeld.2 (below_alloc _ _)⟩ (fun hHeld => ?_)
      clear hK K
      try simp only [Act.put, List.getElem_toArray, List.getElem_cons_succ, List.getElem_cons_zero, List.setIfInBounds_toArray, List.set_cons_zero, List.set_cons_succ]
      have f8 := Blk.new' W0 28 #[.int .i64 0, .int .i64 0, .int .i64 0, .slice none 0 0, .slice none 0 0, .int .i64 0, .int .i64 0, .int .i64 0, .slice none 0 0]
      obtain ⟨g3, hg⟩ : ∃ g, g = W0.heap.size := ⟨_, rfl⟩
      rw [← hg] at f8 ⊢
      have l8 : w.heap.size + 1 ≤ g3 := by rw [hg]; exact hOld.1.lt
      clear hOld
      generalize hWa : W0.alloc (.cells #[.int .i64 0, .int .i64 0, .int .i64 0, .slice none 0 0, .slice none 0 0, .int .i64 0, .int .i64 0, .int .i64 0, .slice none 0 0] 28) = Wa at *
      have la : g3 < Wa.heap.size := f8.lt
      clear hg hWa
      refine wpAnyH_ready (rs := [9]) (by kernel_rfl) (by simp) ?_
      refine AllReadyH.cons rfl (fun K hK => ?_) AllReadyH.nil
      have hOld := hHeld
      go_simp
      refine hK.out _ _ ⟨hHeld.1.alloc _, bt hHeld.2 (below_alloc _ _)⟩ (fun hHeld => ?_)
      clear hK K
      try simp only [Act.put, List.getElem_toArray, List.getElem_cons_succ, List.getElem_cons_zero, List.setIfInBounds_toArray, List.set_cons_zero, List.set_cons_succ]
      have f9 := Blk.new' Wa 30 #[.int .i64 0, .int .i64 0]
      obtain ⟨g4, hg⟩ : ∃ g, g = Wa.heap.size := ⟨_, rfl⟩
      rw [← hg] at f9 ⊢
      have l9 : w.heap.size + 1 ≤ g4 := by rw [hg]; exact hOld.1.lt
      replace f8 := f8.alloc (.cells #[.int .i64 0, .int .i64 0] 30)
      have hne : g3 ≠ g4 := by omega
      clear hOld
      generalize hWb : Wa.alloc (.cells #[.int .i64 0, .int .i64 0] 30) = Wb at *
      clear hg hWb
      refine wpAnyH_ready (rs := [10]) (by kernel_rfl) (by simp) ?_
      refine AllReadyH.cons rfl (fun K hK => ?_) AllReadyH.nil
      rw [if_pos (by rfl)]
      refine wp_store_blk 28 (.tmp 3) (.tmp 22) rfl g3 0 (tabC V T) rfl rfl f8 (by exact Nat.le_refl _) (tabSize V T) (tabOne V T) ?_
      intro W5 h5 ht5
      rw [whole_row (by rfl)] at h5
      refine hK.out _ _ ⟨hHeld.1.turned ht5 (by omega), ht5.below hHeld.2 (by omega)⟩ (fun hHeld => ?_)
      clear hK K
      try simp only [Act.put, List.getElem_toArray, List.getElem_cons_succ, List.getElem_cons_zero, List.setIfInBounds_toArray, List.set_cons_zero, List.set_cons_succ]
      replace f9 := f9.turned ht5 (by omega)
      clear ht5
      refine wpAnyH_ready (rs := [11]) (by kernel_rfl) (by simp) ?_
      refine AllReadyH.cons rfl (fun K hK => ?_) AllReadyH.nil
      rw [if_pos (by rfl)]
      refine wp_store_blk 30 (.tmp 4) (.tmp 24) rfl g4 0 [.int .i64 kind, .int .i64 blk] rfl rfl f9 (by simp) (sizeS2 _ _) (one2 _ _) ?_
      intro W6 h6 ht6
      rw [whole_row (by rfl)] at h6
      refine hK.out _ _ ⟨hHeld.1.turned ht6 (by omega), ht6.below hHeld.2 (by omega)⟩ (fun hHeld => ?_)
      clear hK K
      try simp only [Act.put, List.getElem_toArray, List.getElem_cons_succ, List.getElem_cons_zero, List.setIfInBounds_toArray, List.set_cons_zero, List.set_cons_succ]
      replace h5 := h5.turned ht6 (by omega)
      clear ht6
      refine wpAnyH_take (i := 12) (v := ?_) rfl (by kernel_rfl) (by kernel_rfl) (by kernel_rfl) (fun _ _ _ h => h) (Or.inl ⟨by rfl, ?_⟩) hHeld ?_
      rotate_left
      · intro w' hSw; try dsimp only at hSw
        go_simp; try (with_reducible rfl)
      try simp only [Act.put, List.getElem_toArray, List.getElem_cons_succ, List.getElem_cons_zero, List.setIfInBounds_toArray, List.set_cons_zero, List.set_cons_succ]
      refine wpAnyH_take (i := 13) (v := ?_) rfl (by kernel_rfl) (by kernel_rfl) (by kernel_rfl) (fun _ _ _ h => h) (Or.inl ⟨by rfl, ?_⟩) hHeld ?_
      rotate_left
      · intro w' hSw; try dsimp only at hSw
        go_simp; try (with_reducible rfl)
      try simp only [Act.put, List.getElem_toArray, List.getElem_cons_succ, List.getElem_cons_zero, List.setIfInBounds_toArray, List.set_cons_zero, List.set_cons_succ]
      refine wpAnyH_done (by kernel_rfl) ?_ _
      refine NoPanic.normal ?_
      go_wp2_with fail
      go_meet
      case rel => exact ⟨g3, g4, rfl, rfl, rfl, rfl, h5, h6, hHeld.2, by omega, by omega⟩
    refine AllReadyH.cons rfl (fun K hK => ?_) AllReadyH.nil
    have hOld := hHeld
    go_simp
    refine hK.out _ _ ⟨hHeld.1.alloc _, bt hHeld.2 (below_alloc _ _)⟩ (fun hHeld => ?_)
    clear hK K
    try simp only [Act.put, List.getElem_toArray, List.getElem_cons_succ, List.getElem_cons_zero, List.setIfInBounds_toArray, List.set_cons_zero, List.set_cons_succ]
    have f9 := Blk.new' W0 30 #[.int .i64 0, .int .i64 0]
    obtain ⟨g4, hg⟩ : ∃ g, g = W0.heap.size := ⟨_, rfl⟩
    rw [← hg] at f9 ⊢
    have l9 : w.heap.size + 1 ≤ g4 := by rw [hg]; exact hOld.1.lt
    clear hOld
    generalize hWa : W0.alloc (.cells #[.int .i64 0, .int .i64 0] 30) = Wa at *
    have la : g4 < Wa.heap.size := f9.lt
    clear hg hWa
    refine wpAnyH_ready (rs := [8]) (by kernel_rfl) (by simp) ?_
    refine AllReadyH.cons rfl (fun K hK => ?_) AllReadyH.nil
    have hOld := hHeld
    go_simp
    refine hK.out _ _ ⟨hHeld.1.alloc _, bt hHeld.2 (below_alloc _ _)⟩ (fun hHeld => ?_)
    clear hK K
    try simp only [Act.put, List.getElem_toArray, List.getElem_cons_succ, List.getElem_cons_zero, List.setIfInBounds_toArray, List.set_cons_zero, List.set_cons_succ]
    have f8 := Blk.new' Wa 28 #[.int .i64 0, .int .i64 0, .int .i64 0, .slice none 0 0, .slice none 0 0, .int .i64 0, .int .i64 0, .int .i64 0, .slice none 0 0]
    obtain ⟨g3, hg⟩ : ∃ g, g = Wa.heap.size := ⟨_, rfl⟩
    rw [← hg] at f8 ⊢
    have l8 : w.heap.size + 1 ≤ g3 := by rw [hg]; exact hOld.1.lt
    replace f9 := f9.alloc (.cells #[.int .i64 0, .int .i64 0, .int .i64 0, .slice none 0 0, .slice none 0 0, .int .i64 0, .int .i64 0, .int .i64 0, .slice none 0 0] 28)
    have hne : g4 ≠ g3 := by omega
    clear hOld
    generalize hWb : Wa.alloc (.cells #[.int .i64 0, .int .i64 0, .int .i64 0, .slice none 0 0, .slice none 0 0, .int .i64 0, .int .i64 0, .int .i64 0, .slice none 0 0] 28) = Wb at *
    clear hg hWb
    refine wpAnyH_ready (rs := [10]) (by kernel_rfl) (by simp) ?_
    refine AllReadyH.cons rfl (fun K hK => ?_) AllReadyH.nil
    rw [if_pos (by rfl)]
    refine wp_store_blk 28 (.tmp 3) (.tmp 22) rfl g3 0 (tabC V T) rfl rfl f8 (by exact Nat.le_refl _) (tabSize V T) (tabOne V T) ?_
    intro W5 h5 ht5
    rw [whole_row (by rfl)] at h5
    refine hK.out _ _ ⟨hHeld.1.turned ht5 (by omega), ht5.below hHeld.2 (by omega)⟩ (fun hHeld => ?_)
    clear hK K
    try simp only [Act.put, List.getElem_toArray, List.getElem_cons_succ, List.getElem_cons_zero, List.setIfInBounds_toArray, List.set_cons_zero, List.set_cons_succ]
    replace f9 := f9.turned ht5 (by omega)
    clear ht5
    refine wpAnyH_ready (rs := [11]) (by kernel_rfl) (by simp) ?_
    refine AllReadyH.cons rfl (fun K hK => ?_) AllReadyH.nil
    rw [if_pos (by rfl)]
    refine wp_store_blk 30 (.tmp 4) (.tmp 24) rfl g4 0 [.int .i64 kind, .int .i64 blk] rfl rfl f9 (by simp) (sizeS2 _ _) (one2 _ _) ?_
    intro W6 h6 ht6
    rw [whole_row (by rfl)] at h6
    refine hK.out _ _ ⟨hHeld.1.turned ht6 (by omega), ht6.below hHeld.2 (by omega)⟩ (fun hHeld => ?_)
    clear hK K
    try simp only [Act.put, List.getElem_toArray, List.getElem_cons_succ, List.getElem_cons_zero, List.setIfInBounds_toArray, List.set_cons_zero, List.set_cons_succ]
    replace h5 := h5.turned ht6 (by omega)
    clear ht6
    refine wpAnyH_take (i := 12) (v := ?_) rfl (by kernel_rfl) (by kernel_rfl) (by kernel_rfl) (fun _ _ _ h => h) (Or.inl ⟨by rfl, ?_⟩) hHeld ?_
    rotate_left
    · intro w' hSw; try dsimp only at hSw
      go_simp; try (with_reducible rfl)
    try simp only [Act.put, List.getElem_toArray, List.getElem_cons_succ, List.getElem_cons_zero, List.setIfInBounds_toArray, List.set_cons_zero, List.set_cons_succ]
    refine wpAnyH_take (i := 13) (v := ?_) rfl (by kernel_rfl) (by kernel_rfl) (by kernel_rfl) (fun _ _ _ h => h) (Or.inl ⟨by rfl, ?_⟩) hHeld ?_
    rotate_left
    · intro w' hSw; try dsimp only at hSw
      go_simp; try (with_reducible rfl)
    try simp only [Act.put, List.getElem_toArray, List.getElem_cons_succ, List.getElem_cons_zero, List.setIfInBounds_toArray, List.set_cons_zero, List.set_cons_succ]
    refine wpAnyH_done (by kernel_rfl) ?_ _
    refine NoPanic.normal ?_
    go_wp2_with fail
    go_meet
    case rel => exact ⟨g3, g4, rfl, rfl, rfl, rfl, h5, h6, hHeld.2, by omega, by omega⟩
  case rest =>
    obtain ⟨g3, g4, rfl, rfl, rfl, rfl, t3, s4, hbc, l3, l4⟩ := hcut
    have hT := h.below hbc
    have hsm := small_any V T wc
    unfold tabA at hsm
    have y0 := t3.cell' (i := 0) rfl; have y1 := t3.cell' (i := 1) rfl; have y2 := t3.cell' (i := 2) rfl; have y3 := t3.cell' (i := 3) rfl; have y4 := t3.cell' (i := 4) rfl; have y5 := t3.cell' (i := 5) rfl; have y6 := t3.cell' (i := 6) rfl; have y7 := t3.cell' (i := 7) rfl; have y8 := t3.cell' (i := 8) rfl
    by_cases hS : V.nd ≤ 64 ∧ V.nh ≤ 1024 ∧ V.nl ≤ 12
    · have hsb : (decide (V.nd ≤ 64) && decide (V.nh ≤ 1024) && decide (V.nl ≤ 12)) = true := by simp [hS.1, hS.2.1, hS.2.2]
      have HNH : Hid (V.nh ≤ 100000) := by show V.nh ≤ 100000; omega
      rw [hsb] at hsm
      clear hsb hS
      go_upto_region 6 with (go_at_call 8; refine hsm.mono ?_; rintro e w4 ⟨rfl, k4⟩)
      replace t3 := t3.kept k4
      replace s4 := s4.kept k4
      replace hbc := bt hbc k4
      replace hT := hT.below k4
      clear k4 hsm y0 y1 y2 y3 y4 y5 y6 y7 y8
      rename_i wc0
      obtain ⟨wc, hwc⟩ : ∃ wc, wc = w4 := ⟨_, rfl⟩
      subst hwc
      have hop := put_any V T kind blk n wc hT
      obtain ⟨pe, hpe⟩ : ∃ pe, putE T kind n = pe := ⟨_, rfl⟩
      rw [hpe] at hop
      have HPE : Hid (putE T kind n = pe) := hpe
      unfold tabA at hop
      clear hpe
      have y0 := t3.cell' (i := 0) rfl; have y1 := t3.cell' (i := 1) rfl; have y2 := t3.cell' (i := 2) rfl; have y3 := t3.cell' (i := 3) rfl; have y4 := t3.cell' (i := 4) rfl; have y5 := t3.cell' (i := 5) rfl; have y6 := t3.cell' (i := 6) rfl; have y7 := t3.cell' (i := 7) rfl; have y8 := t3.cell' (i := 8) rfl
      have u0 := s4.cell' (i := 0) rfl
      have u1 := s4.cell' (i := 1) rfl
      go_upto_region 7 with (go_at_call 15; refine hop.mono ?_; rintro e w5 ⟨⟨V5, T5, R5, x, y, rfl, hx⟩, k5⟩)
      have k56 := bt (below_alloc w5 (.cells #[.int .i64 T5.pages, .int .i64 T5.logical, .int .i64 T5.k, .slice V5.pd V5.nd V5.cd, .slice V5.ph V5.nh V5.ch, .int .i64 T5.sp, .int .i64 T5.sl, .int .i64 T5.su, .slice V5.pl V5.nl V5.cl] 28)) (below_alloc (w5.alloc (.cells #[.int .i64 T5.pages, .int .i64 T5.logical, .int .i64 T5.k, .slice V5.pd V5.nd V5.cd, .slice V5.ph V5.nh V5.ch, .int .i64 T5.sp, .int .i64 T5.sl, .int .i64 T5.su, .slice V5.pl V5.nl V5.cl] 28)) (.cells #[.int .i64 x, .int .i64 y] 41))
      have k6 := bt k5 k56
      have h6 := (Blk.new' w5 28 #[.int .i64 T5.pages, .int .i64 T5.logical, .int .i64 T5.k, .slice V5.pd V5.nd V5.cd, .slice V5.ph V5.nh V5.ch, .int .i64 T5.sp, .int .i64 T5.sl, .int .i64 T5.su, .slice V5.pl V5.nl V5.cl]).alloc (.cells #[.int .i64 x, .int .i64 y] 41)
      have p6 := Blk.new' (w5.alloc (.cells #[.int .i64 T5.pages, .int .i64 T5.logical, .int .i64 T5.k, .slice V5.pd V5.nd V5.cd, .slice V5.ph V5.nh V5.ch, .int .i64 T5.sp, .int .i64 T5.sl, .int .i64 T5.su, .slice V5.pl V5.nl V5.cl] 28)) 41 #[.int .i64 x, .int .i64 y]
      generalize (w5.alloc (.cells #[.int .i64 T5.pages, .int .i64 T5.logical, .int .i64 T5.k, .slice V5.pd V5.nd V5.cd, .slice V5.ph V5.nh V5.ch, .int .i64 T5.sp, .int .i64 T5.sl, .int .i64 T5.su, .slice V5.pl V5.nl V5.cl] 28)).alloc (.cells #[.int .i64 x, .int .i64 y] 41) = W6 at *
      rw [World.size_alloc] at p6
      have t6 := t3.kept k6
      have s6 := s4.kept k6
      have hT6 := hT.below k6
      have hb6 := bt hbc k6
      clear y0 y1 y2 y3 y4 y5 y6 y7 y8 u0 u1 hop t3 s4 hT k6 hbc
      have y0 := t6.cell' (i := 0) rfl; have y1 := t6.cell' (i := 1) rfl; have y2 := t6.cell' (i := 2) rfl; have y3 := t6.cell' (i := 3) rfl; have y4 := t6.cell' (i := 4) rfl; have y5 := t6.cell' (i := 5) rfl; have y6 := t6.cell' (i := 6) rfl; have y7 := t6.cell' (i := 7) rfl; have y8 := t6.cell' (i := 8) rfl
      have z0 := h6.cell' (i := 0) rfl; have z1 := h6.cell' (i := 1) rfl; have z2 := h6.cell' (i := 2) rfl; have z3 := h6.cell' (i := 3) rfl; have z4 := h6.cell' (i := 4) rfl; have z5 := h6.cell' (i := 5) rfl; have z6 := h6.cell' (i := 6) rfl; have z7 := h6.cell' (i := 7) rfl; have z8 := h6.cell' (i := 8) rfl
      have u0 := s6.cell' (i := 0) rfl
      have u1 := s6.cell' (i := 1) rfl
      by_cases he : pe = 0
      · obtain ⟨hT5, hxy, hown⟩ := hx he
        have hh := put_heart (HPE.out.trans he)
        obtain ⟨hok, hpg, -, -, -, hoth, hwe⟩ := hh
        have hpe2 : whereE T5 n = ((x, y), true) := by rw [hT5, hwe, ← hT5, ← hxy]
        have hnb : 0 ≤ n ∧ n ≤ 100000 := by
          obtain ⟨P, L, hF⟩ := okT_facts hok hT6
          have hpg' := hpg
          unfold hasPg at hpg'
          simp only [Bool.and_eq_true, decide_eq_true_eq] at hpg'
          rw [hF.pg, hF.lg, ← Int.natCast_mul] at hpg'
          have : L * P ≤ 8192 := Nat.le_trans (Nat.mul_le_mul hF.l0.2 hF.p0.2) (by omega)
          omega
        have hw1 : IntKind.i64.wrap (n + 1) = n + 1 := by rw [IntKind.wrap_i64]; omega
        have hw2 : wrap64 (n + 1) = n + 1 := (IntWalk.i64_left _).symm.trans hw1
        have hown6 := hown.next k56
        have hwh := where_any V5 T5 n W6 hown6.inT
        rw [hpe2] at hwh
        have hot := fun w' (hb : Below W6.heap.size W6 w') => others_any V V5 T T5 n (n + 1) w' (hT6.below hb) (hown6.next hb).inT HNH.out (fun p _ hp => by rw [hT5]; exact hoth p hp)
        unfold tabA at hwh hot
        dsimp only at hwh
        subst he
        clear hx hown hown6 hoth hwe hpe2 hok hpg hnb k56 hT5 hxy
        go_upto_region 9 with (go_at_call 23; refine hwh.mono ?_; rintro e w7 ⟨rfl, k7⟩)
        have k8 := bt k7 (below_alloc w7 (.cells #[.int .i64 x, .int .i64 y] 41))
        have q8 := Blk.new' w7 41 #[.int .i64 x, .int .i64 y]
        generalize w7.alloc (.cells #[.int .i64 x, .int .i64 y] 41) = W8 at *
        have t8 := t6.kept k8
        have s8 := s6.kept k8
        have h8 := h6.kept k8
        have p8 := p6.kept k8
        have hot8 := hot _ k8
        have hb8 := bt hb6 k8
        clear y0 y1 y2 y3 y4 y5 y6 y7 y8 z0 z1 z2 z3 z4 z5 z6 z7 z8 u0 u1 hwh hot
        have y0 := t8.cell' (i := 0) rfl; have y1 := t8.cell' (i := 1) rfl; have y2 := t8.cell' (i := 2) rfl; have y3 := t8.cell' (i := 3) rfl; have y4 := t8.cell' (i := 4) rfl; have y5 := t8.cell' (i := 5) rfl; have y6 := t8.cell' (i := 6) rfl; have y7 := t8.cell' (i := 7) rfl; have y8 := t8.cell' (i := 8) rfl
        have z0 := h8.cell' (i := 0) rfl; have z1 := h8.cell' (i := 1) rfl; have z2 := h8.cell' (i := 2) rfl; have z3 := h8.cell' (i := 3) rfl; have z4 := h8.cell' (i := 4) rfl; have z5 := h8.cell' (i := 5) rfl; have z6 := h8.cell' (i := 6) rfl; have z7 := h8.cell' (i := 7) rfl; have z8 := h8.cell' (i := 8) rfl
        have v0 := p8.cell' (i := 0) rfl
        have v1 := p8.cell' (i := 1) rfl
        have v2 := q8.cell' (i := 0) rfl
        have v3 := q8.cell' (i := 1) rfl
        go_upto_region 11 with (go_at_call 24; refine hot8.mono ?_; rintro e w9 ⟨rfl, k9⟩)
        have t3 := t8.kept k9
        have s4 := s8.kept k9
        have hbc := bt hb8 k9
        have hT := h.below hbc
        clear t6 s6 t8 s8 h8 p8 q8 h6 p6 hb6 hb8 k8 v0 v1 v2 v3 hw1 hw2 k9 hot8 hT6 y0 y1 y2 y3 y4 y5 y6 y7 y8 z0 z1 z2 z3 z4 z5 z6 z7 z8
        have hop := open_any V T kind blk phys w9 hT
        obtain ⟨pe, hpe⟩ : ∃ pe, openE T kind blk phys = pe := ⟨_, rfl⟩
        rw [hpe] at hop
        have HPE : Hid (openE T kind blk phys = pe) := hpe
        have hna := fun V2 U w' => others_any V V2 T U 0 0 w'
        unfold tabA at hop hna
        clear hpe
        have y0 := t3.cell' (i := 0) rfl; have y1 := t3.cell' (i := 1) rfl; have y2 := t3.cell' (i := 2) rfl; have y3 := t3.cell' (i := 3) rfl; have y4 := t3.cell' (i := 4) rfl; have y5 := t3.cell' (i := 5) rfl; have y6 := t3.cell' (i := 6) rfl; have y7 := t3.cell' (i := 7) rfl; have y8 := t3.cell' (i := 8) rfl
        have u0 := s4.cell' (i := 0) rfl
        have u1 := s4.cell' (i := 1) rfl
        go_upto_region 12 with (go_at_call 12; refine hop.mono ?_; rintro e w5 ⟨⟨V5, T5, R5, rfl, hx⟩, k5⟩)
        have k6 := bt k5 (below_alloc w5 (.cells #[.int .i64 T5.pages, .int .i64 T5.logical, .int .i64 T5.k, .slice V5.pd V5.nd V5.cd, .slice V5.ph V5.nh V5.ch, .int .i64 T5.sp, .int .i64 T5.sl, .int .i64 T5.su, .slice V5.pl V5.nl V5.cl] 28))
        have k56 := below_alloc w5 (.cells #[.int .i64 T5.pages, .int .i64 T5.logical, .int .i64 T5.k, .slice V5.pd V5.nd V5.cd, .slice V5.ph V5.nh V5.ch, .int .i64 T5.sp, .int .i64 T5.sl, .int .i64 T5.su, .slice V5.pl V5.nl V5.cl] 28)
        have h6 := Blk.new' w5 28 #[.int .i64 T5.pages, .int .i64 T5.logical, .int .i64 T5.k, .slice V5.pd V5.nd V5.cd, .slice V5.ph V5.nh V5.ch, .int .i64 T5.sp, .int .i64 T5.sl, .int .i64 T5.su, .slice V5.pl V5.nl V5.cl]
        generalize w5.alloc (.cells #[.int .i64 T5.pages, .int .i64 T5.logical, .int .i64 T5.k, .slice V5.pd V5.nd V5.cd, .slice V5.ph V5.nh V5.ch, .int .i64 T5.sp, .int .i64 T5.sl, .int .i64 T5.su, .slice V5.pl V5.nl V5.cl] 28) = W6 at *
        have t6 := t3.kept k6
        have s6 := s4.kept k6
        have hT6 := hT.below k6
        have hb6 := bt hbc k6
        clear y0 y1 y2 y3 y4 y5 y6 y7 y8 u0 u1 hop t3 s4 hT k6 hbc
        have y0 := t6.cell' (i := 0) rfl; have y1 := t6.cell' (i := 1) rfl; have y2 := t6.cell' (i := 2) rfl; have y3 := t6.cell' (i := 3) rfl; have y4 := t6.cell' (i := 4) rfl; have y5 := t6.cell' (i := 5) rfl; have y6 := t6.cell' (i := 6) rfl; have y7 := t6.cell' (i := 7) rfl; have y8 := t6.cell' (i := 8) rfl
        have z0 := h6.cell' (i := 0) rfl; have z1 := h6.cell' (i := 1) rfl; have z2 := h6.cell' (i := 2) rfl; have z3 := h6.cell' (i := 3) rfl; have z4 := h6.cell' (i := 4) rfl; have z5 := h6.cell' (i := 5) rfl; have z6 := h6.cell' (i := 6) rfl; have z7 := h6.cell' (i := 7) rfl; have z8 := h6.cell' (i := 8) rfl
        have u0 := s6.cell' (i := 0) rfl
        have u1 := s6.cell' (i := 1) rfl
        by_cases he : pe = 0
        · have hx' := hx he
          obtain ⟨hT5, hown⟩ := hx'
          have hot := hna V5 T5 W6 hT6 (hown.next k56).inT HNH.out (fun p _ _ => by rw [hT5]; exact open_heart (HPE.out.trans he) p)
          subst he
          clear hx hna hown k56 hT6 hT5
          go_upto_region 14 with (go_at_call 24; refine hot.mono ?_; rintro e w7 ⟨rfl, k7⟩)
          have t3 := t6.kept k7
          have s4 := s6.kept k7
          have hbc := bt hb6 k7
          have hT := h.below hbc
          clear t6 s6 h6 hb6 u0 u1 y0 y1 y2 y3 y4 y5 y6 y7 y8 z0 z1 z2 z3 z4 z5 z6 z7 z8 k7 hot
          have hop := skip_any V T kind blk w7 hT
          obtain ⟨pe, hpe⟩ : ∃ pe, skipE T kind = pe := ⟨_, rfl⟩
          rw [hpe] at hop
          have HPE : Hid (skipE T kind = pe) := hpe
          have hna := fun V2 U w' => others_any V V2 T U 0 0 w'
          unfold tabA at hop hna
          clear hpe
          have y0 := t3.cell' (i := 0) rfl; have y1 := t3.cell' (i := 1) rfl; have y2 := t3.cell' (i := 2) rfl; have y3 := t3.cell' (i := 3) rfl; have y4 := t3.cell' (i := 4) rfl; have y5 := t3.cell' (i := 5) rfl; have y6 := t3.cell' (i := 6) rfl; have y7 := t3.cell' (i := 7) rfl; have y8 := t3.cell' (i := 8) rfl
          have u0 := s4.cell' (i := 0) rfl
          have u1 := s4.cell' (i := 1) rfl
          go_upto_region 15 with (go_at_call 17; refine hop.mono ?_; rintro e w5 ⟨⟨V5, T5, R5, rfl, hx⟩, k5⟩)
          have k6 := bt k5 (below_alloc w5 (.cells #[.int .i64 T5.pages, .int .i64 T5.logical, .int .i64 T5.k, .slice V5.pd V5.nd V5.cd, .slice V5.ph V5.nh V5.ch, .int .i64 T5.sp, .int .i64 T5.sl, .int .i64 T5.su, .slice V5.pl V5.nl V5.cl] 28))
          have k56 := below_alloc w5 (.cells #[.int .i64 T5.pages, .int .i64 T5.logical, .int .i64 T5.k, .slice V5.pd V5.nd V5.cd, .slice V5.ph V5.nh V5.ch, .int .i64 T5.sp, .int .i64 T5.sl, .int .i64 T5.su, .slice V5.pl V5.nl V5.cl] 28)
          have h6 := Blk.new' w5 28 #[.int .i64 T5.pages, .int .i64 T5.logical, .int .i64 T5.k, .slice V5.pd V5.nd V5.cd, .slice V5.ph V5.nh V5.ch, .int .i64 T5.sp, .int .i64 T5.sl, .int .i64 T5.su, .slice V5.pl V5.nl V5.cl]
          generalize w5.alloc (.cells #[.int .i64 T5.pages, .int .i64 T5.logical, .int .i64 T5.k, .slice V5.pd V5.nd V5.cd, .slice V5.ph V5.nh V5.ch, .int .i64 T5.sp, .int .i64 T5.sl, .int .i64 T5.su, .slice V5.pl V5.nl V5.cl] 28) = W6 at *
          have t6 := t3.kept k6
          have s6 := s4.kept k6
          have hT6 := hT.below k6
          have hb6 := bt hbc k6
          clear y0 y1 y2 y3 y4 y5 y6 y7 y8 u0 u1 hop t3 s4 hT k6 hbc
          have y0 := t6.cell' (i := 0) rfl; have y1 := t6.cell' (i := 1) rfl; have y2 := t6.cell' (i := 2) rfl; have y3 := t6.cell' (i := 3) rfl; have y4 := t6.cell' (i := 4) rfl; have y5 := t6.cell' (i := 5) rfl; have y6 := t6.cell' (i := 6) rfl; have y7 := t6.cell' (i := 7) rfl; have y8 := t6.cell' (i := 8) rfl
          have z0 := h6.cell' (i := 0) rfl; have z1 := h6.cell' (i := 1) rfl; have z2 := h6.cell' (i := 2) rfl; have z3 := h6.cell' (i := 3) rfl; have z4 := h6.cell' (i := 4) rfl; have z5 := h6.cell' (i := 5) rfl; have z6 := h6.cell' (i := 6) rfl; have z7 := h6.cell' (i := 7) rfl; have z8 := h6.cell' (i := 8) rfl
          have u0 := s6.cell' (i := 0) rfl
          have u1 := s6.cell' (i := 1) rfl
          by_cases he : pe = 0
          · have hx' := hx he
            obtain ⟨hT5, hown⟩ := hx'
            have hot := hna V5 T5 W6 hT6 (hown.next k56).inT HNH.out (fun p _ _ => by rw [hT5]; exact skip_heart (HPE.out.trans he) p)
            subst he
            clear hx hna hown k56 hT6 hT5
            go_upto_region 17 with (go_at_call 24; refine hot.mono ?_; rintro e w7 ⟨rfl, k7⟩)
            have t3 := t6.kept k7
            have s4 := s6.kept k7
            have hbc := bt hb6 k7
            have hT := h.below hbc
            clear t6 s6 h6 hb6 u0 u1 y0 y1 y2 y3 y4 y5 y6 y7 y8 z0 z1 z2 z3 z4 z5 z6 z7 z8 k7 hot
            have hop := dropped_any V T w7 hT
            obtain ⟨pe, hpe⟩ : ∃ pe, dropE T = pe := ⟨_, rfl⟩
            rw [hpe] at hop
            have HPE : Hid (dropE T = pe) := hpe
            have hna := fun V2 U w' => others_any V V2 T U 0 0 w'
            unfold tabA at hop hna
            clear hpe
            have y0 := t3.cell' (i := 0) rfl; have y1 := t3.cell' (i := 1) rfl; have y2 := t3.cell' (i := 2) rfl; have y3 := t3.cell' (i := 3) rfl; have y4 := t3.cell' (i := 4) rfl; have y5 := t3.cell' (i := 5) rfl; have y6 := t3.cell' (i := 6) rfl; have y7 := t3.cell' (i := 7) rfl; have y8 := t3.cell' (i := 8) rfl
            have u0 := s4.cell' (i := 0) rfl
            have u1 := s4.cell' (i := 1) rfl
            go_upto_region 18 with (go_at_call 22; refine hop.mono ?_; rintro e w5 ⟨⟨V5, T5, R5, x, rfl, hx⟩, k5⟩)
            have k6 := bt k5 (below_alloc w5 (.cells #[.int .i64 T5.pages, .int .i64 T5.logical, .int .i64 T5.k, .slice V5.pd V5.nd V5.cd, .slice V5.ph V5.nh V5.ch, .int .i64 T5.sp, .int .i64 T5.sl, .int .i64 T5.su, .slice V5.pl V5.nl V5.cl] 28))
            have k56 := below_alloc w5 (.cells #[.int .i64 T5.pages, .int .i64 T5.logical, .int .i64 T5.k, .slice V5.pd V5.nd V5.cd, .slice V5.ph V5.nh V5.ch, .int .i64 T5.sp, .int .i64 T5.sl, .int .i64 T5.su, .slice V5.pl V5.nl V5.cl] 28)
            have h6 := Blk.new' w5 28 #[.int .i64 T5.pages, .int .i64 T5.logical, .int .i64 T5.k, .slice V5.pd V5.nd V5.cd, .slice V5.ph V5.nh V5.ch, .int .i64 T5.sp, .int .i64 T5.sl, .int .i64 T5.su, .slice V5.pl V5.nl V5.cl]
            generalize w5.alloc (.cells #[.int .i64 T5.pages, .int .i64 T5.logical, .int .i64 T5.k, .slice V5.pd V5.nd V5.cd, .slice V5.ph V5.nh V5.ch, .int .i64 T5.sp, .int .i64 T5.sl, .int .i64 T5.su, .slice V5.pl V5.nl V5.cl] 28) = W6 at *
            have t6 := t3.kept k6
            have s6 := s4.kept k6
            have hT6 := hT.below k6
            have hb6 := bt hbc k6
            clear y0 y1 y2 y3 y4 y5 y6 y7 y8 u0 u1 hop t3 s4 hT k6 hbc
            have y0 := t6.cell' (i := 0) rfl; have y1 := t6.cell' (i := 1) rfl; have y2 := t6.cell' (i := 2) rfl; have y3 := t6.cell' (i := 3) rfl; have y4 := t6.cell' (i := 4) rfl; have y5 := t6.cell' (i := 5) rfl; have y6 := t6.cell' (i := 6) rfl; have y7 := t6.cell' (i := 7) rfl; have y8 := t6.cell' (i := 8) rfl
            have z0 := h6.cell' (i := 0) rfl; have z1 := h6.cell' (i := 1) rfl; have z2 := h6.cell' (i := 2) rfl; have z3 := h6.cell' (i := 3) rfl; have z4 := h6.cell' (i := 4) rfl; have z5 := h6.cell' (i := 5) rfl; have z6 := h6.cell' (i := 6) rfl; have z7 := h6.cell' (i := 7) rfl; have z8 := h6.cell' (i := 8) rfl
            have u0 := s6.cell' (i := 0) rfl
            have u1 := s6.cell' (i := 1) rfl
            by_cases he : pe = 0
            · have hx' := hx he
              obtain ⟨-, hT5, -, hown⟩ := hx'
              have hot := hna V5 T5 W6 hT6 (hown.next k56).inT HNH.out (fun p _ _ => by rw [hT5]; exact drop_heart (HPE.out.trans he) p)
              subst he
              clear hx hna hown k56 hT6 hT5
              go_wp2_with (go_at_call 24; refine hot.mono ?_; rintro e w7 ⟨rfl, k7⟩)
              go_ret
              exact ⟨rfl, bt hb6 k7⟩
            · have he' : (pe == 0) = false := by simpa using he
              clear hx hna k56 hT6
              go_wp2
              go_ret
              exact ⟨rfl, hb6⟩
          · have he' : (pe == 0) = false := by simpa using he
            clear hx hna k56 hT6
            go_upto_region 17 with fail
            have t3 := t6
            have s4 := s6
            have hbc := hb6
            have hT := h.below hbc
            clear t6 s6 h6 hb6 u0 u1 y0 y1 y2 y3 y4 y5 y6 y7 y8 z0 z1 z2 z3 z4 z5 z6 z7 z8 he he'
            have hop := dropped_any V T W6 hT
            obtain ⟨pe, hpe⟩ : ∃ pe, dropE T = pe := ⟨_, rfl⟩
            rw [hpe] at hop
            have HPE : Hid (dropE T = pe) := hpe
            have hna := fun V2 U w' => others_any V V2 T U 0 0 w'
            unfold tabA at hop hna
            clear hpe
            have y0 := t3.cell' (i := 0) rfl; have y1 := t3.cell' (i := 1) rfl; have y2 := t3.cell' (i := 2) rfl; have y3 := t3.cell' (i := 3) rfl; have y4 := t3.cell' (i := 4) rfl; have y5 := t3.cell' (i := 5) rfl; have y6 := t3.cell' (i := 6) rfl; have y7 := t3.cell' (i := 7) rfl; have y8 := t3.cell' (i := 8) rfl
            have u0 := s4.cell' (i := 0) rfl
            have u1 := s4.cell' (i := 1) rfl
            go_upto_region 18 with (go_at_call 22; refine hop.mono ?_; rintro e w5 ⟨⟨V5, T5, R5, x, rfl, hx⟩, k5⟩)
            have k6 := bt k5 (below_alloc w5 (.cells #[.int .i64 T5.pages, .int .i64 T5.logical, .int .i64 T5.k, .slice V5.pd V5.nd V5.cd, .slice V5.ph V5.nh V5.ch, .int .i64 T5.sp, .int .i64 T5.sl, .int .i64 T5.su, .slice V5.pl V5.nl V5.cl] 28))
            have k56 := below_alloc w5 (.cells #[.int .i64 T5.pages, .int .i64 T5.logical, .int .i64 T5.k, .slice V5.pd V5.nd V5.cd, .slice V5.ph V5.nh V5.ch, .int .i64 T5.sp, .int .i64 T5.sl, .int .i64 T5.su, .slice V5.pl V5.nl V5.cl] 28)
            have h6 := Blk.new' w5 28 #[.int .i64 T5.pages, .int .i64 T5.logical, .int .i64 T5.k, .slice V5.pd V5.nd V5.cd, .slice V5.ph V5.nh V5.ch, .int .i64 T5.sp, .int .i64 T5.sl, .int .i64 T5.su, .slice V5.pl V5.nl V5.cl]
            generalize w5.alloc (.cells #[.int .i64 T5.pages, .int .i64 T5.logical, .int .i64 T5.k, .slice V5.pd V5.nd V5.cd, .slice V5.ph V5.nh V5.ch, .int .i64 T5.sp, .int .i64 T5.sl, .int .i64 T5.su, .slice V5.pl V5.nl V5.cl] 28) = W6 at *
            have t6 := t3.kept k6
            have s6 := s4.kept k6
            have hT6 := hT.below k6
            have hb6 := bt hbc k6
            clear y0 y1 y2 y3 y4 y5 y6 y7 y8 u0 u1 hop t3 s4 hT k6 hbc
            have y0 := t6.cell' (i := 0) rfl; have y1 := t6.cell' (i := 1) rfl; have y2 := t6.cell' (i := 2) rfl; have y3 := t6.cell' (i := 3) rfl; have y4 := t6.cell' (i := 4) rfl; have y5 := t6.cell' (i := 5) rfl; have y6 := t6.cell' (i := 6) rfl; have y7 := t6.cell' (i := 7) rfl; have y8 := t6.cell' (i := 8) rfl
            have z0 := h6.cell' (i := 0) rfl; have z1 := h6.cell' (i := 1) rfl; have z2 := h6.cell' (i := 2) rfl; have z3 := h6.cell' (i := 3) rfl; have z4 := h6.cell' (i := 4) rfl; have z5 := h6.cell' (i := 5) rfl; have z6 := h6.cell' (i := 6) rfl; have z7 := h6.cell' (i := 7) rfl; have z8 := h6.cell' (i := 8) rfl
            have u0 := s6.cell' (i := 0) rfl
            have u1 := s6.cell' (i := 1) rfl
            by_cases he : pe = 0
            · have hx' := hx he
              obtain ⟨-, hT5, -, hown⟩ := hx'
              have hot := hna V5 T5 W6 hT6 (hown.next k56).inT HNH.out (fun p _ _ => by rw [hT5]; exact drop_heart (HPE.out.trans he) p)
              subst he
              clear hx hna hown k56 hT6 hT5
              go_wp2_with (go_at_call 24; refine hot.mono ?_; rintro e w7 ⟨rfl, k7⟩)
              go_ret
              exact ⟨rfl, bt hb6 k7⟩
            · have he' : (pe == 0) = false := by simpa using he
              clear hx hna k56 hT6
              go_wp2
              go_ret
              exact ⟨rfl, hb6⟩
        · have he' : (pe == 0) = false := by simpa using he
          clear hx hna k56 hT6
          go_upto_region 14 with fail
          have t3 := t6
          have s4 := s6
          have hbc := hb6
          have hT := h.below hbc
          clear t6 s6 h6 hb6 u0 u1 y0 y1 y2 y3 y4 y5 y6 y7 y8 z0 z1 z2 z3 z4 z5 z6 z7 z8 he he'
          have hop := skip_any V T kind blk W6 hT
          obtain ⟨pe, hpe⟩ : ∃ pe, skipE T kind = pe := ⟨_, rfl⟩
          rw [hpe] at hop
          have HPE : Hid (skipE T kind = pe) := hpe
          have hna := fun V2 U w' => others_any V V2 T U 0 0 w'
          unfold tabA at hop hna
          clear hpe
          have y0 := t3.cell' (i := 0) rfl; have y1 := t3.cell' (i := 1) rfl; have y2 := t3.cell' (i := 2) rfl; have y3 := t3.cell' (i := 3) rfl; have y4 := t3.cell' (i := 4) rfl; have y5 := t3.cell' (i := 5) rfl; have y6 := t3.cell' (i := 6) rfl; have y7 := t3.cell' (i := 7) rfl; have y8 := t3.cell' (i := 8) rfl
          have u0 := s4.cell' (i := 0) rfl
          have u1 := s4.cell' (i := 1) rfl
          go_upto_region 15 with (go_at_call 17; refine hop.mono ?_; rintro e w5 ⟨⟨V5, T5, R5, rfl, hx⟩, k5⟩)
          have k6 := bt k5 (below_alloc w5 (.cells #[.int .i64 T5.pages, .int .i64 T5.logical, .int .i64 T5.k, .slice V5.pd V5.nd V5.cd, .slice V5.ph V5.nh V5.ch, .int .i64 T5.sp, .int .i64 T5.sl, .int .i64 T5.su, .slice V5.pl V5.nl V5.cl] 28))
          have k56 := below_alloc w5 (.cells #[.int .i64 T5.pages, .int .i64 T5.logical, .int .i64 T5.k, .slice V5.pd V5.nd V5.cd, .slice V5.ph V5.nh V5.ch, .int .i64 T5.sp, .int .i64 T5.sl, .int .i64 T5.su, .slice V5.pl V5.nl V5.cl] 28)
          have h6 := Blk.new' w5 28 #[.int .i64 T5.pages, .int .i64 T5.logical, .int .i64 T5.k, .slice V5.pd V5.nd V5.cd, .slice V5.ph V5.nh V5.ch, .int .i64 T5.sp, .int .i64 T5.sl, .int .i64 T5.su, .slice V5.pl V5.nl V5.cl]
          generalize w5.alloc (.cells #[.int .i64 T5.pages, .int .i64 T5.logical, .int .i64 T5.k, .slice V5.pd V5.nd V5.cd, .slice V5.ph V5.nh V5.ch, .int .i64 T5.sp, .int .i64 T5.sl, .int .i64 T5.su, .slice V5.pl V5.nl V5.cl] 28) = W6 at *
          have t6 := t3.kept k6
          have s6 := s4.kept k6
          have hT6 := hT.below k6
          have hb6 := bt hbc k6
          clear y0 y1 y2 y3 y4 y5 y6 y7 y8 u0 u1 hop t3 s4 hT k6 hbc
          have y0 := t6.cell' (i := 0) rfl; have y1 := t6.cell' (i := 1) rfl; have y2 := t6.cell' (i := 2) rfl; have y3 := t6.cell' (i := 3) rfl; have y4 := t6.cell' (i := 4) rfl; have y5 := t6.cell' (i := 5) rfl; have y6 := t6.cell' (i := 6) rfl; have y7 := t6.cell' (i := 7) rfl; have y8 := t6.cell' (i := 8) rfl
          have z0 := h6.cell' (i := 0) rfl; have z1 := h6.cell' (i := 1) rfl; have z2 := h6.cell' (i := 2) rfl; have z3 := h6.cell' (i := 3) rfl; have z4 := h6.cell' (i := 4) rfl; have z5 := h6.cell' (i := 5) rfl; have z6 := h6.cell' (i := 6) rfl; have z7 := h6.cell' (i := 7) rfl; have z8 := h6.cell' (i := 8) rfl
          have u0 := s6.cell' (i := 0) rfl
          have u1 := s6.cell' (i := 1) rfl
          by_cases he : pe = 0
          · have hx' := hx he
            obtain ⟨hT5, hown⟩ := hx'
            have hot := hna V5 T5 W6 hT6 (hown.next k56).inT HNH.out (fun p _ _ => by rw [hT5]; exact skip_heart (HPE.out.trans he) p)
            subst he
            clear hx hna hown k56 hT6 hT5
            go_upto_region 17 with (go_at_call 24; refine hot.mono ?_; rintro e w7 ⟨rfl, k7⟩)
            have t3 := t6.kept k7
            have s4 := s6.kept k7
            have hbc := bt hb6 k7
            have hT := h.below hbc
            clear t6 s6 h6 hb6 u0 u1 y0 y1 y2 y3 y4 y5 y6 y7 y8 z0 z1 z2 z3 z4 z5 z6 z7 z8 k7 hot
            have hop := dropped_any V T w7 hT
            obtain ⟨pe, hpe⟩ : ∃ pe, dropE T = pe := ⟨_, rfl⟩
            rw [hpe] at hop
            have HPE : Hid (dropE T = pe) := hpe
            have hna := fun V2 U w' => others_any V V2 T U 0 0 w'
            unfold tabA at hop hna
            clear hpe
            have y0 := t3.cell' (i := 0) rfl; have y1 := t3.cell' (i := 1) rfl; have y2 := t3.cell' (i := 2) rfl; have y3 := t3.cell' (i := 3) rfl; have y4 := t3.cell' (i := 4) rfl; have y5 := t3.cell' (i := 5) rfl; have y6 := t3.cell' (i := 6) rfl; have y7 := t3.cell' (i := 7) rfl; have y8 := t3.cell' (i := 8) rfl
            have u0 := s4.cell' (i := 0) rfl
            have u1 := s4.cell' (i := 1) rfl
            go_upto_region 18 with (go_at_call 22; refine hop.mono ?_; rintro e w5 ⟨⟨V5, T5, R5, x, rfl, hx⟩, k5⟩)
            have k6 := bt k5 (below_alloc w5 (.cells #[.int .i64 T5.pages, .int .i64 T5.logical, .int .i64 T5.k, .slice V5.pd V5.nd V5.cd, .slice V5.ph V5.nh V5.ch, .int .i64 T5.sp, .int .i64 T5.sl, .int .i64 T5.su, .slice V5.pl V5.nl V5.cl] 28))
            have k56 := below_alloc w5 (.cells #[.int .i64 T5.pages, .int .i64 T5.logical, .int .i64 T5.k, .slice V5.pd V5.nd V5.cd, .slice V5.ph V5.nh V5.ch, .int .i64 T5.sp, .int .i64 T5.sl, .int .i64 T5.su, .slice V5.pl V5.nl V5.cl] 28)
            have h6 := Blk.new' w5 28 #[.int .i64 T5.pages, .int .i64 T5.logical, .int .i64 T5.k, .slice V5.pd V5.nd V5.cd, .slice V5.ph V5.nh V5.ch, .int .i64 T5.sp, .int .i64 T5.sl, .int .i64 T5.su, .slice V5.pl V5.nl V5.cl]
            generalize w5.alloc (.cells #[.int .i64 T5.pages, .int .i64 T5.logical, .int .i64 T5.k, .slice V5.pd V5.nd V5.cd, .slice V5.ph V5.nh V5.ch, .int .i64 T5.sp, .int .i64 T5.sl, .int .i64 T5.su, .slice V5.pl V5.nl V5.cl] 28) = W6 at *
            have t6 := t3.kept k6
            have s6 := s4.kept k6
            have hT6 := hT.below k6
            have hb6 := bt hbc k6
            clear y0 y1 y2 y3 y4 y5 y6 y7 y8 u0 u1 hop t3 s4 hT k6 hbc
            have y0 := t6.cell' (i := 0) rfl; have y1 := t6.cell' (i := 1) rfl; have y2 := t6.cell' (i := 2) rfl; have y3 := t6.cell' (i := 3) rfl; have y4 := t6.cell' (i := 4) rfl; have y5 := t6.cell' (i := 5) rfl; have y6 := t6.cell' (i := 6) rfl; have y7 := t6.cell' (i := 7) rfl; have y8 := t6.cell' (i := 8) rfl
            have z0 := h6.cell' (i := 0) rfl; have z1 := h6.cell' (i := 1) rfl; have z2 := h6.cell' (i := 2) rfl; have z3 := h6.cell' (i := 3) rfl; have z4 := h6.cell' (i := 4) rfl; have z5 := h6.cell' (i := 5) rfl; have z6 := h6.cell' (i := 6) rfl; have z7 := h6.cell' (i := 7) rfl; have z8 := h6.cell' (i := 8) rfl
            have u0 := s6.cell' (i := 0) rfl
            have u1 := s6.cell' (i := 1) rfl
            by_cases he : pe = 0
            · have hx' := hx he
              obtain ⟨-, hT5, -, hown⟩ := hx'
              have hot := hna V5 T5 W6 hT6 (hown.next k56).inT HNH.out (fun p _ _ => by rw [hT5]; exact drop_heart (HPE.out.trans he) p)
              subst he
              clear hx hna hown k56 hT6 hT5
              go_wp2_with (go_at_call 24; refine hot.mono ?_; rintro e w7 ⟨rfl, k7⟩)
              go_ret
              exact ⟨rfl, bt hb6 k7⟩
            · have he' : (pe == 0) = false := by simpa using he
              clear hx hna k56 hT6
              go_wp2
              go_ret
              exact ⟨rfl, hb6⟩
          · have he' : (pe == 0) = false := by simpa using he
            clear hx hna k56 hT6
            go_upto_region 17 with fail
            have t3 := t6
            have s4 := s6
            have hbc := hb6
            have hT := h.below hbc
            clear t6 s6 h6 hb6 u0 u1 y0 y1 y2 y3 y4 y5 y6 y7 y8 z0 z1 z2 z3 z4 z5 z6 z7 z8 he he'
            have hop := dropped_any V T W6 hT
            obtain ⟨pe, hpe⟩ : ∃ pe, dropE T = pe := ⟨_, rfl⟩
            rw [hpe] at hop
            have HPE : Hid (dropE T = pe) := hpe
            have hna := fun V2 U w' => others_any V V2 T U 0 0 w'
            unfold tabA at hop hna
            clear hpe
            have y0 := t3.cell' (i := 0) rfl; have y1 := t3.cell' (i := 1) rfl; have y2 := t3.cell' (i := 2) rfl; have y3 := t3.cell' (i := 3) rfl; have y4 := t3.cell' (i := 4) rfl; have y5 := t3.cell' (i := 5) rfl; have y6 := t3.cell' (i := 6) rfl; have y7 := t3.cell' (i := 7) rfl; have y8 := t3.cell' (i := 8) rfl
            have u0 := s4.cell' (i := 0) rfl
            have u1 := s4.cell' (i := 1) rfl
            go_upto_region 18 with (go_at_call 22; refine hop.mono ?_; rintro e w5 ⟨⟨V5, T5, R5, x, rfl, hx⟩, k5⟩)
            have k6 := bt k5 (below_alloc w5 (.cells #[.int .i64 T5.pages, .int .i64 T5.logical, .int .i64 T5.k, .slice V5.pd V5.nd V5.cd, .slice V5.ph V5.nh V5.ch, .int .i64 T5.sp, .int .i64 T5.sl, .int .i64 T5.su, .slice V5.pl V5.nl V5.cl] 28))
            have k56 := below_alloc w5 (.cells #[.int .i64 T5.pages, .int .i64 T5.logical, .int .i64 T5.k, .slice V5.pd V5.nd V5.cd, .slice V5.ph V5.nh V5.ch, .int .i64 T5.sp, .int .i64 T5.sl, .int .i64 T5.su, .slice V5.pl V5.nl V5.cl] 28)
            have h6 := Blk.new' w5 28 #[.int .i64 T5.pages, .int .i64 T5.logical, .int .i64 T5.k, .slice V5.pd V5.nd V5.cd, .slice V5.ph V5.nh V5.ch, .int .i64 T5.sp, .int .i64 T5.sl, .int .i64 T5.su, .slice V5.pl V5.nl V5.cl]
            generalize w5.alloc (.cells #[.int .i64 T5.pages, .int .i64 T5.logical, .int .i64 T5.k, .slice V5.pd V5.nd V5.cd, .slice V5.ph V5.nh V5.ch, .int .i64 T5.sp, .int .i64 T5.sl, .int .i64 T5.su, .slice V5.pl V5.nl V5.cl] 28) = W6 at *
            have t6 := t3.kept k6
            have s6 := s4.kept k6
            have hT6 := hT.below k6
            have hb6 := bt hbc k6
            clear y0 y1 y2 y3 y4 y5 y6 y7 y8 u0 u1 hop t3 s4 hT k6 hbc
            have y0 := t6.cell' (i := 0) rfl; have y1 := t6.cell' (i := 1) rfl; have y2 := t6.cell' (i := 2) rfl; have y3 := t6.cell' (i := 3) rfl; have y4 := t6.cell' (i := 4) rfl; have y5 := t6.cell' (i := 5) rfl; have y6 := t6.cell' (i := 6) rfl; have y7 := t6.cell' (i := 7) rfl; have y8 := t6.cell' (i := 8) rfl
            have z0 := h6.cell' (i := 0) rfl; have z1 := h6.cell' (i := 1) rfl; have z2 := h6.cell' (i := 2) rfl; have z3 := h6.cell' (i := 3) rfl; have z4 := h6.cell' (i := 4) rfl; have z5 := h6.cell' (i := 5) rfl; have z6 := h6.cell' (i := 6) rfl; have z7 := h6.cell' (i := 7) rfl; have z8 := h6.cell' (i := 8) rfl
            have u0 := s6.cell' (i := 0) rfl
            have u1 := s6.cell' (i := 1) rfl
            by_cases he : pe = 0
            · have hx' := hx he
              obtain ⟨-, hT5, -, hown⟩ := hx'
              have hot := hna V5 T5 W6 hT6 (hown.next k56).inT HNH.out (fun p _ _ => by rw [hT5]; exact drop_heart (HPE.out.trans he) p)
              subst he
              clear hx hna hown k56 hT6 hT5
              go_wp2_with (go_at_call 24; refine hot.mono ?_; rintro e w7 ⟨rfl, k7⟩)
              go_ret
              exact ⟨rfl, bt hb6 k7⟩
            · have he' : (pe == 0) = false := by simpa using he
              clear hx hna k56 hT6
              go_wp2
              go_ret
              exact ⟨rfl, hb6⟩
      · have he' : (pe == 0) = false := by simpa using he
        clear hx k56 hT6
        go_upto_region 11 with fail
        have t3 := t6
        have s4 := s6
        have hbc := hb6
        have hT := h.below hbc
        clear t6 s6 h6 p6 hb6 u0 u1 he he' y0 y1 y2 y3 y4 y5 y6 y7 y8 z0 z1 z2 z3 z4 z5 z6 z7 z8
        have hop := open_any V T kind blk phys W6 hT
        obtain ⟨pe, hpe⟩ : ∃ pe, openE T kind blk phys = pe := ⟨_, rfl⟩
        rw [hpe] at hop
        have HPE : Hid (openE T kind blk phys = pe) := hpe
        have hna := fun V2 U w' => others_any V V2 T U 0 0 w'
        unfold tabA at hop hna
        clear hpe
        have y0 := t3.cell' (i := 0) rfl; have y1 := t3.cell' (i := 1) rfl; have y2 := t3.cell' (i := 2) rfl; have y3 := t3.cell' (i := 3) rfl; have y4 := t3.cell' (i := 4) rfl; have y5 := t3.cell' (i := 5) rfl; have y6 := t3.cell' (i := 6) rfl; have y7 := t3.cell' (i := 7) rfl; have y8 := t3.cell' (i := 8) rfl
        have u0 := s4.cell' (i := 0) rfl
        have u1 := s4.cell' (i := 1) rfl
        go_upto_region 12 with (go_at_call 12; refine hop.mono ?_; rintro e w5 ⟨⟨V5, T5, R5, rfl, hx⟩, k5⟩)
        have k6 := bt k5 (below_alloc w5 (.cells #[.int .i64 T5.pages, .int .i64 T5.logical, .int .i64 T5.k, .slice V5.pd V5.nd V5.cd, .slice V5.ph V5.nh V5.ch, .int .i64 T5.sp, .int .i64 T5.sl, .int .i64 T5.su, .slice V5.pl V5.nl V5.cl] 28))
        have k56 := below_alloc w5 (.cells #[.int .i64 T5.pages, .int .i64 T5.logical, .int .i64 T5.k, .slice V5.pd V5.nd V5.cd, .slice V5.ph V5.nh V5.ch, .int .i64 T5.sp, .int .i64 T5.sl, .int .i64 T5.su, .slice V5.pl V5.nl V5.cl] 28)
        have h6 := Blk.new' w5 28 #[.int .i64 T5.pages, .int .i64 T5.logical, .int .i64 T5.k, .slice V5.pd V5.nd V5.cd, .slice V5.ph V5.nh V5.ch, .int .i64 T5.sp, .int .i64 T5.sl, .int .i64 T5.su, .slice V5.pl V5.nl V5.cl]
        generalize w5.alloc (.cells #[.int .i64 T5.pages, .int .i64 T5.logical, .int .i64 T5.k, .slice V5.pd V5.nd V5.cd, .slice V5.ph V5.nh V5.ch, .int .i64 T5.sp, .int .i64 T5.sl, .int .i64 T5.su, .slice V5.pl V5.nl V5.cl] 28) = W6 at *
        have t6 := t3.kept k6
        have s6 := s4.kept k6
        have hT6 := hT.below k6
        have hb6 := bt hbc k6
        clear y0 y1 y2 y3 y4 y5 y6 y7 y8 u0 u1 hop t3 s4 hT k6 hbc
        have y0 := t6.cell' (i := 0) rfl; have y1 := t6.cell' (i := 1) rfl; have y2 := t6.cell' (i := 2) rfl; have y3 := t6.cell' (i := 3) rfl; have y4 := t6.cell' (i := 4) rfl; have y5 := t6.cell' (i := 5) rfl; have y6 := t6.cell' (i := 6) rfl; have y7 := t6.cell' (i := 7) rfl; have y8 := t6.cell' (i := 8) rfl
        have z0 := h6.cell' (i := 0) rfl; have z1 := h6.cell' (i := 1) rfl; have z2 := h6.cell' (i := 2) rfl; have z3 := h6.cell' (i := 3) rfl; have z4 := h6.cell' (i := 4) rfl; have z5 := h6.cell' (i := 5) rfl; have z6 := h6.cell' (i := 6) rfl; have z7 := h6.cell' (i := 7) rfl; have z8 := h6.cell' (i := 8) rfl
        have u0 := s6.cell' (i := 0) rfl
        have u1 := s6.cell' (i := 1) rfl
        by_cases he : pe = 0
        · have hx' := hx he
          obtain ⟨hT5, hown⟩ := hx'
          have hot := hna V5 T5 W6 hT6 (hown.next k56).inT HNH.out (fun p _ _ => by rw [hT5]; exact open_heart (HPE.out.trans he) p)
          subst he
          clear hx hna hown k56 hT6 hT5
          go_upto_region 14 with (go_at_call 24; refine hot.mono ?_; rintro e w7 ⟨rfl, k7⟩)
          have t3 := t6.kept k7
          have s4 := s6.kept k7
          have hbc := bt hb6 k7
          have hT := h.below hbc
          clear t6 s6 h6 hb6 u0 u1 y0 y1 y2 y3 y4 y5 y6 y7 y8 z0 z1 z2 z3 z4 z5 z6 z7 z8 k7 hot
          have hop := skip_any V T kind blk w7 hT
          obtain ⟨pe, hpe⟩ : ∃ pe, skipE T kind = pe := ⟨_, rfl⟩
          rw [hpe] at hop
          have HPE : Hid (skipE T kind = pe) := hpe
          have hna := fun V2 U w' => others_any V V2 T U 0 0 w'
          unfold tabA at hop hna
          clear hpe
          have y0 := t3.cell' (i := 0) rfl; have y1 := t3.cell' (i := 1) rfl; have y2 := t3.cell' (i := 2) rfl; have y3 := t3.cell' (i := 3) rfl; have y4 := t3.cell' (i := 4) rfl; have y5 := t3.cell' (i := 5) rfl; have y6 := t3.cell' (i := 6) rfl; have y7 := t3.cell' (i := 7) rfl; have y8 := t3.cell' (i := 8) rfl
          have u0 := s4.cell' (i := 0) rfl
          have u1 := s4.cell' (i := 1) rfl
          go_upto_region 15 with (go_at_call 17; refine hop.mono ?_; rintro e w5 ⟨⟨V5, T5, R5, rfl, hx⟩, k5⟩)
          have k6 := bt k5 (below_alloc w5 (.cells #[.int .i64 T5.pages, .int .i64 T5.logical, .int .i64 T5.k, .slice V5.pd V5.nd V5.cd, .slice V5.ph V5.nh V5.ch, .int .i64 T5.sp, .int .i64 T5.sl, .int .i64 T5.su, .slice V5.pl V5.nl V5.cl] 28))
          have k56 := below_alloc w5 (.cells #[.int .i64 T5.pages, .int .i64 T5.logical, .int .i64 T5.k, .slice V5.pd V5.nd V5.cd, .slice V5.ph V5.nh V5.ch, .int .i64 T5.sp, .int .i64 T5.sl, .int .i64 T5.su, .slice V5.pl V5.nl V5.cl] 28)
          have h6 := Blk.new' w5 28 #[.int .i64 T5.pages, .int .i64 T5.logical, .int .i64 T5.k, .slice V5.pd V5.nd V5.cd, .slice V5.ph V5.nh V5.ch, .int .i64 T5.sp, .int .i64 T5.sl, .int .i64 T5.su, .slice V5.pl V5.nl V5.cl]
          generalize w5.alloc (.cells #[.int .i64 T5.pages, .int .i64 T5.logical, .int .i64 T5.k, .slice V5.pd V5.nd V5.cd, .slice V5.ph V5.nh V5.ch, .int .i64 T5.sp, .int .i64 T5.sl, .int .i64 T5.su, .slice V5.pl V5.nl V5.cl] 28) = W6 at *
          have t6 := t3.kept k6
          have s6 := s4.kept k6
          have hT6 := hT.below k6
          have hb6 := bt hbc k6
          clear y0 y1 y2 y3 y4 y5 y6 y7 y8 u0 u1 hop t3 s4 hT k6 hbc
          have y0 := t6.cell' (i := 0) rfl; have y1 := t6.cell' (i := 1) rfl; have y2 := t6.cell' (i := 2) rfl; have y3 := t6.cell' (i := 3) rfl; have y4 := t6.cell' (i := 4) rfl; have y5 := t6.cell' (i := 5) rfl; have y6 := t6.cell' (i := 6) rfl; have y7 := t6.cell' (i := 7) rfl; have y8 := t6.cell' (i := 8) rfl
          have z0 := h6.cell' (i := 0) rfl; have z1 := h6.cell' (i := 1) rfl; have z2 := h6.cell' (i := 2) rfl; have z3 := h6.cell' (i := 3) rfl; have z4 := h6.cell' (i := 4) rfl; have z5 := h6.cell' (i := 5) rfl; have z6 := h6.cell' (i := 6) rfl; have z7 := h6.cell' (i := 7) rfl; have z8 := h6.cell' (i := 8) rfl
          have u0 := s6.cell' (i := 0) rfl
          have u1 := s6.cell' (i := 1) rfl
          by_cases he : pe = 0
          · have hx' := hx he
            obtain ⟨hT5, hown⟩ := hx'
            have hot := hna V5 T5 W6 hT6 (hown.next k56).inT HNH.out (fun p _ _ => by rw [hT5]; exact skip_heart (HPE.out.trans he) p)
            subst he
            clear hx hna hown k56 hT6 hT5
            go_upto_region 17 with (go_at_call 24; refine hot.mono ?_; rintro e w7 ⟨rfl, k7⟩)
            have t3 := t6.kept k7
            have s4 := s6.kept k7
            have hbc := bt hb6 k7
            have hT := h.below hbc
            clear t6 s6 h6 hb6 u0 u1 y0 y1 y2 y3 y4 y5 y6 y7 y8 z0 z1 z2 z3 z4 z5 z6 z7 z8 k7 hot
            have hop := dropped_any V T w7 hT
            obtain ⟨pe, hpe⟩ : ∃ pe, dropE T = pe := ⟨_, rfl⟩
            rw [hpe] at hop
            have HPE : Hid (dropE T = pe) := hpe
            have hna := fun V2 U w' => others_any V V2 T U 0 0 w'
            unfold tabA at hop hna
            clear hpe
            have y0 := t3.cell' (i := 0) rfl; have y1 := t3.cell' (i := 1) rfl; have y2 := t3.cell' (i := 2) rfl; have y3 := t3.cell' (i := 3) rfl; have y4 := t3.cell' (i := 4) rfl; have y5 := t3.cell' (i := 5) rfl; have y6 := t3.cell' (i := 6) rfl; have y7 := t3.cell' (i := 7) rfl; have y8 := t3.cell' (i := 8) rfl
            have u0 := s4.cell' (i := 0) rfl
            have u1 := s4.cell' (i := 1) rfl
            go_upto_region 18 with (go_at_call 22; refine hop.mono ?_; rintro e w5 ⟨⟨V5, T5, R5, x, rfl, hx⟩, k5⟩)
            have k6 := bt k5 (below_alloc w5 (.cells #[.int .i64 T5.pages, .int .i64 T5.logical, .int .i64 T5.k, .slice V5.pd V5.nd V5.cd, .slice V5.ph V5.nh V5.ch, .int .i64 T5.sp, .int .i64 T5.sl, .int .i64 T5.su, .slice V5.pl V5.nl V5.cl] 28))
            have k56 := below_alloc w5 (.cells #[.int .i64 T5.pages, .int .i64 T5.logical, .int .i64 T5.k, .slice V5.pd V5.nd V5.cd, .slice V5.ph V5.nh V5.ch, .int .i64 T5.sp, .int .i64 T5.sl, .int .i64 T5.su, .slice V5.pl V5.nl V5.cl] 28)
            have h6 := Blk.new' w5 28 #[.int .i64 T5.pages, .int .i64 T5.logical, .int .i64 T5.k, .slice V5.pd V5.nd V5.cd, .slice V5.ph V5.nh V5.ch, .int .i64 T5.sp, .int .i64 T5.sl, .int .i64 T5.su, .slice V5.pl V5.nl V5.cl]
            generalize w5.alloc (.cells #[.int .i64 T5.pages, .int .i64 T5.logical, .int .i64 T5.k, .slice V5.pd V5.nd V5.cd, .slice V5.ph V5.nh V5.ch, .int .i64 T5.sp, .int .i64 T5.sl, .int .i64 T5.su, .slice V5.pl V5.nl V5.cl] 28) = W6 at *
            have t6 := t3.kept k6
            have s6 := s4.kept k6
            have hT6 := hT.below k6
            have hb6 := bt hbc k6
            clear y0 y1 y2 y3 y4 y5 y6 y7 y8 u0 u1 hop t3 s4 hT k6 hbc
            have y0 := t6.cell' (i := 0) rfl; have y1 := t6.cell' (i := 1) rfl; have y2 := t6.cell' (i := 2) rfl; have y3 := t6.cell' (i := 3) rfl; have y4 := t6.cell' (i := 4) rfl; have y5 := t6.cell' (i := 5) rfl; have y6 := t6.cell' (i := 6) rfl; have y7 := t6.cell' (i := 7) rfl; have y8 := t6.cell' (i := 8) rfl
            have z0 := h6.cell' (i := 0) rfl; have z1 := h6.cell' (i := 1) rfl; have z2 := h6.cell' (i := 2) rfl; have z3 := h6.cell' (i := 3) rfl; have z4 := h6.cell' (i := 4) rfl; have z5 := h6.cell' (i := 5) rfl; have z6 := h6.cell' (i := 6) rfl; have z7 := h6.cell' (i := 7) rfl; have z8 := h6.cell' (i := 8) rfl
            have u0 := s6.cell' (i := 0) rfl
            have u1 := s6.cell' (i := 1) rfl
            by_cases he : pe = 0
            · have hx' := hx he
              obtain ⟨-, hT5, -, hown⟩ := hx'
              have hot := hna V5 T5 W6 hT6 (hown.next k56).inT HNH.out (fun p _ _ => by rw [hT5]; exact drop_heart (HPE.out.trans he) p)
              subst he
              clear hx hna hown k56 hT6 hT5
              go_wp2_with (go_at_call 24; refine hot.mono ?_; rintro e w7 ⟨rfl, k7⟩)
              go_ret
              exact ⟨rfl, bt hb6 k7⟩
            · have he' : (pe == 0) = false := by simpa using he
              clear hx hna k56 hT6
              go_wp2
              go_ret
              exact ⟨rfl, hb6⟩
          · have he' : (pe == 0) = false := by simpa using he
            clear hx hna k56 hT6
            go_upto_region 17 with fail
            have t3 := t6
            have s4 := s6
            have hbc := hb6
            have hT := h.below hbc
            clear t6 s6 h6 hb6 u0 u1 y0 y1 y2 y3 y4 y5 y6 y7 y8 z0 z1 z2 z3 z4 z5 z6 z7 z8 he he'
            have hop := dropped_any V T W6 hT
            obtain ⟨pe, hpe⟩ : ∃ pe, dropE T = pe := ⟨_, rfl⟩
            rw [hpe] at hop
            have HPE : Hid (dropE T = pe) := hpe
            have hna := fun V2 U w' => others_any V V2 T U 0 0 w'
            unfold tabA at hop hna
            clear hpe
            have y0 := t3.cell' (i := 0) rfl; have y1 := t3.cell' (i := 1) rfl; have y2 := t3.cell' (i := 2) rfl; have y3 := t3.cell' (i := 3) rfl; have y4 := t3.cell' (i := 4) rfl; have y5 := t3.cell' (i := 5) rfl; have y6 := t3.cell' (i := 6) rfl; have y7 := t3.cell' (i := 7) rfl; have y8 := t3.cell' (i := 8) rfl
            have u0 := s4.cell' (i := 0) rfl
            have u1 := s4.cell' (i := 1) rfl
            go_upto_region 18 with (go_at_call 22; refine hop.mono ?_; rintro e w5 ⟨⟨V5, T5, R5, x, rfl, hx⟩, k5⟩)
            have k6 := bt k5 (below_alloc w5 (.cells #[.int .i64 T5.pages, .int .i64 T5.logical, .int .i64 T5.k, .slice V5.pd V5.nd V5.cd, .slice V5.ph V5.nh V5.ch, .int .i64 T5.sp, .int .i64 T5.sl, .int .i64 T5.su, .slice V5.pl V5.nl V5.cl] 28))
            have k56 := below_alloc w5 (.cells #[.int .i64 T5.pages, .int .i64 T5.logical, .int .i64 T5.k, .slice V5.pd V5.nd V5.cd, .slice V5.ph V5.nh V5.ch, .int .i64 T5.sp, .int .i64 T5.sl, .int .i64 T5.su, .slice V5.pl V5.nl V5.cl] 28)
            have h6 := Blk.new' w5 28 #[.int .i64 T5.pages, .int .i64 T5.logical, .int .i64 T5.k, .slice V5.pd V5.nd V5.cd, .slice V5.ph V5.nh V5.ch, .int .i64 T5.sp, .int .i64 T5.sl, .int .i64 T5.su, .slice V5.pl V5.nl V5.cl]
            generalize w5.alloc (.cells #[.int .i64 T5.pages, .int .i64 T5.logical, .int .i64 T5.k, .slice V5.pd V5.nd V5.cd, .slice V5.ph V5.nh V5.ch, .int .i64 T5.sp, .int .i64 T5.sl, .int .i64 T5.su, .slice V5.pl V5.nl V5.cl] 28) = W6 at *
            have t6 := t3.kept k6
            have s6 := s4.kept k6
            have hT6 := hT.below k6
            have hb6 := bt hbc k6
            clear y0 y1 y2 y3 y4 y5 y6 y7 y8 u0 u1 hop t3 s4 hT k6 hbc
            have y0 := t6.cell' (i := 0) rfl; have y1 := t6.cell' (i := 1) rfl; have y2 := t6.cell' (i := 2) rfl; have y3 := t6.cell' (i := 3) rfl; have y4 := t6.cell' (i := 4) rfl; have y5 := t6.cell' (i := 5) rfl; have y6 := t6.cell' (i := 6) rfl; have y7 := t6.cell' (i := 7) rfl; have y8 := t6.cell' (i := 8) rfl
            have z0 := h6.cell' (i := 0) rfl; have z1 := h6.cell' (i := 1) rfl; have z2 := h6.cell' (i := 2) rfl; have z3 := h6.cell' (i := 3) rfl; have z4 := h6.cell' (i := 4) rfl; have z5 := h6.cell' (i := 5) rfl; have z6 := h6.cell' (i := 6) rfl; have z7 := h6.cell' (i := 7) rfl; have z8 := h6.cell' (i := 8) rfl
            have u0 := s6.cell' (i := 0) rfl
            have u1 := s6.cell' (i := 1) rfl
            by_cases he : pe = 0
            · have hx' := hx he
              obtain ⟨-, hT5, -, hown⟩ := hx'
              have hot := hna V5 T5 W6 hT6 (hown.next k56).inT HNH.out (fun p _ _ => by rw [hT5]; exact drop_heart (HPE.out.trans he) p)
              subst he
              clear hx hna hown k56 hT6 hT5
              go_wp2_with (go_at_call 24; refine hot.mono ?_; rintro e w7 ⟨rfl, k7⟩)
              go_ret
              exact ⟨rfl, bt hb6 k7⟩
            · have he' : (pe == 0) = false := by simpa using he
              clear hx hna k56 hT6
              go_wp2
              go_ret
              exact ⟨rfl, hb6⟩
        · have he' : (pe == 0) = false := by simpa using he
          clear hx hna k56 hT6
          go_upto_region 14 with fail
          have t3 := t6
          have s4 := s6
          have hbc := hb6
          have hT := h.below hbc
          clear t6 s6 h6 hb6 u0 u1 y0 y1 y2 y3 y4 y5 y6 y7 y8 z0 z1 z2 z3 z4 z5 z6 z7 z8 he he'
          have hop := skip_any V T kind blk W6 hT
          obtain ⟨pe, hpe⟩ : ∃ pe, skipE T kind = pe := ⟨_, rfl⟩
          rw [hpe] at hop
          have HPE : Hid (skipE T kind = pe) := hpe
          have hna := fun V2 U w' => others_any V V2 T U 0 0 w'
          unfold tabA at hop hna
          clear hpe
          have y0 := t3.cell' (i := 0) rfl; have y1 := t3.cell' (i := 1) rfl; have y2 := t3.cell' (i := 2) rfl; have y3 := t3.cell' (i := 3) rfl; have y4 := t3.cell' (i := 4) rfl; have y5 := t3.cell' (i := 5) rfl; have y6 := t3.cell' (i := 6) rfl; have y7 := t3.cell' (i := 7) rfl; have y8 := t3.cell' (i := 8) rfl
          have u0 := s4.cell' (i := 0) rfl
          have u1 := s4.cell' (i := 1) rfl
          go_upto_region 15 with (go_at_call 17; refine hop.mono ?_; rintro e w5 ⟨⟨V5, T5, R5, rfl, hx⟩, k5⟩)
          have k6 := bt k5 (below_alloc w5 (.cells #[.int .i64 T5.pages, .int .i64 T5.logical, .int .i64 T5.k, .slice V5.pd V5.nd V5.cd, .slice V5.ph V5.nh V5.ch, .int .i64 T5.sp, .int .i64 T5.sl, .int .i64 T5.su, .slice V5.pl V5.nl V5.cl] 28))
          have k56 := below_alloc w5 (.cells #[.int .i64 T5.pages, .int .i64 T5.logical, .int .i64 T5.k, .slice V5.pd V5.nd V5.cd, .slice V5.ph V5.nh V5.ch, .int .i64 T5.sp, .int .i64 T5.sl, .int .i64 T5.su, .slice V5.pl V5.nl V5.cl] 28)
          have h6 := Blk.new' w5 28 #[.int .i64 T5.pages, .int .i64 T5.logical, .int .i64 T5.k, .slice V5.pd V5.nd V5.cd, .slice V5.ph V5.nh V5.ch, .int .i64 T5.sp, .int .i64 T5.sl, .int .i64 T5.su, .slice V5.pl V5.nl V5.cl]
          generalize w5.alloc (.cells #[.int .i64 T5.pages, .int .i64 T5.logical, .int .i64 T5.k, .slice V5.pd V5.nd V5.cd, .slice V5.ph V5.nh V5.ch, .int .i64 T5.sp, .int .i64 T5.sl, .int .i64 T5.su, .slice V5.pl V5.nl V5.cl] 28) = W6 at *
          have t6 := t3.kept k6
          have s6 := s4.kept k6
          have hT6 := hT.below k6
          have hb6 := bt hbc k6
          clear y0 y1 y2 y3 y4 y5 y6 y7 y8 u0 u1 hop t3 s4 hT k6 hbc
          have y0 := t6.cell' (i := 0) rfl; have y1 := t6.cell' (i := 1) rfl; have y2 := t6.cell' (i := 2) rfl; have y3 := t6.cell' (i := 3) rfl; have y4 := t6.cell' (i := 4) rfl; have y5 := t6.cell' (i := 5) rfl; have y6 := t6.cell' (i := 6) rfl; have y7 := t6.cell' (i := 7) rfl; have y8 := t6.cell' (i := 8) rfl
          have z0 := h6.cell' (i := 0) rfl; have z1 := h6.cell' (i := 1) rfl; have z2 := h6.cell' (i := 2) rfl; have z3 := h6.cell' (i := 3) rfl; have z4 := h6.cell' (i := 4) rfl; have z5 := h6.cell' (i := 5) rfl; have z6 := h6.cell' (i := 6) rfl; have z7 := h6.cell' (i := 7) rfl; have z8 := h6.cell' (i := 8) rfl
          have u0 := s6.cell' (i := 0) rfl
          have u1 := s6.cell' (i := 1) rfl
          by_cases he : pe = 0
          · have hx' := hx he
            obtain ⟨hT5, hown⟩ := hx'
            have hot := hna V5 T5 W6 hT6 (hown.next k56).inT HNH.out (fun p _ _ => by rw [hT5]; exact skip_heart (HPE.out.trans he) p)
            subst he
            clear hx hna hown k56 hT6 hT5
            go_upto_region 17 with (go_at_call 24; refine hot.mono ?_; rintro e w7 ⟨rfl, k7⟩)
            have t3 := t6.kept k7
            have s4 := s6.kept k7
            have hbc := bt hb6 k7
            have hT := h.below hbc
            clear t6 s6 h6 hb6 u0 u1 y0 y1 y2 y3 y4 y5 y6 y7 y8 z0 z1 z2 z3 z4 z5 z6 z7 z8 k7 hot
            have hop := dropped_any V T w7 hT
            obtain ⟨pe, hpe⟩ : ∃ pe, dropE T = pe := ⟨_, rfl⟩
            rw [hpe] at hop
            have HPE : Hid (dropE T = pe) := hpe
            have hna := fun V2 U w' => others_any V V2 T U 0 0 w'
            unfold tabA at hop hna
            clear hpe
            have y0 := t3.cell' (i := 0) rfl; have y1 := t3.cell' (i := 1) rfl; have y2 := t3.cell' (i := 2) rfl; have y3 := t3.cell' (i := 3) rfl; have y4 := t3.cell' (i := 4) rfl; have y5 := t3.cell' (i := 5) rfl; have y6 := t3.cell' (i := 6) rfl; have y7 := t3.cell' (i := 7) rfl; have y8 := t3.cell' (i := 8) rfl
            have u0 := s4.cell' (i := 0) rfl
            have u1 := s4.cell' (i := 1) rfl
            go_upto_region 18 with (go_at_call 22; refine hop.mono ?_; rintro e w5 ⟨⟨V5, T5, R5, x, rfl, hx⟩, k5⟩)
            have k6 := bt k5 (below_alloc w5 (.cells #[.int .i64 T5.pages, .int .i64 T5.logical, .int .i64 T5.k, .slice V5.pd V5.nd V5.cd, .slice V5.ph V5.nh V5.ch, .int .i64 T5.sp, .int .i64 T5.sl, .int .i64 T5.su, .slice V5.pl V5.nl V5.cl] 28))
            have k56 := below_alloc w5 (.cells #[.int .i64 T5.pages, .int .i64 T5.logical, .int .i64 T5.k, .slice V5.pd V5.nd V5.cd, .slice V5.ph V5.nh V5.ch, .int .i64 T5.sp, .int .i64 T5.sl, .int .i64 T5.su, .slice V5.pl V5.nl V5.cl] 28)
            have h6 := Blk.new' w5 28 #[.int .i64 T5.pages, .int .i64 T5.logical, .int .i64 T5.k, .slice V5.pd V5.nd V5.cd, .slice V5.ph V5.nh V5.ch, .int .i64 T5.sp, .int .i64 T5.sl, .int .i64 T5.su, .slice V5.pl V5.nl V5.cl]
            generalize w5.alloc (.cells #[.int .i64 T5.pages, .int .i64 T5.logical, .int .i64 T5.k, .slice V5.pd V5.nd V5.cd, .slice V5.ph V5.nh V5.ch, .int .i64 T5.sp, .int .i64 T5.sl, .int .i64 T5.su, .slice V5.pl V5.nl V5.cl] 28) = W6 at *
            have t6 := t3.kept k6
            have s6 := s4.kept k6
            have hT6 := hT.below k6
            have hb6 := bt hbc k6
            clear y0 y1 y2 y3 y4 y5 y6 y7 y8 u0 u1 hop t3 s4 hT k6 hbc
            have y0 := t6.cell' (i := 0) rfl; have y1 := t6.cell' (i := 1) rfl; have y2 := t6.cell' (i := 2) rfl; have y3 := t6.cell' (i := 3) rfl; have y4 := t6.cell' (i := 4) rfl; have y5 := t6.cell' (i := 5) rfl; have y6 := t6.cell' (i := 6) rfl; have y7 := t6.cell' (i := 7) rfl; have y8 := t6.cell' (i := 8) rfl
            have z0 := h6.cell' (i := 0) rfl; have z1 := h6.cell' (i := 1) rfl; have z2 := h6.cell' (i := 2) rfl; have z3 := h6.cell' (i := 3) rfl; have z4 := h6.cell' (i := 4) rfl; have z5 := h6.cell' (i := 5) rfl; have z6 := h6.cell' (i := 6) rfl; have z7 := h6.cell' (i := 7) rfl; have z8 := h6.cell' (i := 8) rfl
            have u0 := s6.cell' (i := 0) rfl
            have u1 := s6.cell' (i := 1) rfl
            by_cases he : pe = 0
            · have hx' := hx he
              obtain ⟨-, hT5, -, hown⟩ := hx'
              have hot := hna V5 T5 W6 hT6 (hown.next k56).inT HNH.out (fun p _ _ => by rw [hT5]; exact drop_heart (HPE.out.trans he) p)
              subst he
              clear hx hna hown k56 hT6 hT5
              go_wp2_with (go_at_call 24; refine hot.mono ?_; rintro e w7 ⟨rfl, k7⟩)
              go_ret
              exact ⟨rfl, bt hb6 k7⟩
            · have he' : (pe == 0) = false := by simpa using he
              clear hx hna k56 hT6
              go_wp2
              go_ret
              exact ⟨rfl, hb6⟩
          · have he' : (pe == 0) = false := by simpa using he
            clear hx hna k56 hT6
            go_upto_region 17 with fail
            have t3 := t6
            have s4 := s6
            have hbc := hb6
            have hT := h.below hbc
            clear t6 s6 h6 hb6 u0 u1 y0 y1 y2 y3 y4 y5 y6 y7 y8 z0 z1 z2 z3 z4 z5 z6 z7 z8 he he'
            have hop := dropped_any V T W6 hT
            obtain ⟨pe, hpe⟩ : ∃ pe, dropE T = pe := ⟨_, rfl⟩
            rw [hpe] at hop
            have HPE : Hid (dropE T = pe) := hpe
            have hna := fun V2 U w' => others_any V V2 T U 0 0 w'
            unfold tabA at hop hna
            clear hpe
            have y0 := t3.cell' (i := 0) rfl; have y1 := t3.cell' (i := 1) rfl; have y2 := t3.cell' (i := 2) rfl; have y3 := t3.cell' (i := 3) rfl; have y4 := t3.cell' (i := 4) rfl; have y5 := t3.cell' (i := 5) rfl; have y6 := t3.cell' (i := 6) rfl; have y7 := t3.cell' (i := 7) rfl; have y8 := t3.cell' (i := 8) rfl
            have u0 := s4.cell' (i := 0) rfl
            have u1 := s4.cell' (i := 1) rfl
            go_upto_region 18 with (go_at_call 22; refine hop.mono ?_; rintro e w5 ⟨⟨V5, T5, R5, x, rfl, hx⟩, k5⟩)
            have k6 := bt k5 (below_alloc w5 (.cells #[.int .i64 T5.pages, .int .i64 T5.logical, .int .i64 T5.k, .slice V5.pd V5.nd V5.cd, .slice V5.ph V5.nh V5.ch, .int .i64 T5.sp, .int .i64 T5.sl, .int .i64 T5.su, .slice V5.pl V5.nl V5.cl] 28))
            have k56 := below_alloc w5 (.cells #[.int .i64 T5.pages, .int .i64 T5.logical, .int .i64 T5.k, .slice V5.pd V5.nd V5.cd, .slice V5.ph V5.nh V5.ch, .int .i64 T5.sp, .int .i64 T5.sl, .int .i64 T5.su, .slice V5.pl V5.nl V5.cl] 28)
            have h6 := Blk.new' w5 28 #[.int .i64 T5.pages, .int .i64 T5.logical, .int .i64 T5.k, .slice V5.pd V5.nd V5.cd, .slice V5.ph V5.nh V5.ch, .int .i64 T5.sp, .int .i64 T5.sl, .int .i64 T5.su, .slice V5.pl V5.nl V5.cl]
            generalize w5.alloc (.cells #[.int .i64 T5.pages, .int .i64 T5.logical, .int .i64 T5.k, .slice V5.pd V5.nd V5.cd, .slice V5.ph V5.nh V5.ch, .int .i64 T5.sp, .int .i64 T5.sl, .int .i64 T5.su, .slice V5.pl V5.nl V5.cl] 28) = W6 at *
            have t6 := t3.kept k6
            have s6 := s4.kept k6
            have hT6 := hT.below k6
            have hb6 := bt hbc k6
            clear y0 y1 y2 y3 y4 y5 y6 y7 y8 u0 u1 hop t3 s4 hT k6 hbc
            have y0 := t6.cell' (i := 0) rfl; have y1 := t6.cell' (i := 1) rfl; have y2 := t6.cell' (i := 2) rfl; have y3 := t6.cell' (i := 3) rfl; have y4 := t6.cell' (i := 4) rfl; have y5 := t6.cell' (i := 5) rfl; have y6 := t6.cell' (i := 6) rfl; have y7 := t6.cell' (i := 7) rfl; have y8 := t6.cell' (i := 8) rfl
            have z0 := h6.cell' (i := 0) rfl; have z1 := h6.cell' (i := 1) rfl; have z2 := h6.cell' (i := 2) rfl; have z3 := h6.cell' (i := 3) rfl; have z4 := h6.cell' (i := 4) rfl; have z5 := h6.cell' (i := 5) rfl; have z6 := h6.cell' (i := 6) rfl; have z7 := h6.cell' (i := 7) rfl; have z8 := h6.cell' (i := 8) rfl
            have u0 := s6.cell' (i := 0) rfl
            have u1 := s6.cell' (i := 1) rfl
            by_cases he : pe = 0
            · have hx' := hx he
              obtain ⟨-, hT5, -, hown⟩ := hx'
              have hot := hna V5 T5 W6 hT6 (hown.next k56).inT HNH.out (fun p _ _ => by rw [hT5]; exact drop_heart (HPE.out.trans he) p)
              subst he
              clear hx hna hown k56 hT6 hT5
              go_wp2_with (go_at_call 24; refine hot.mono ?_; rintro e w7 ⟨rfl, k7⟩)
              go_ret
              exact ⟨rfl, bt hb6 k7⟩
            · have he' : (pe == 0) = false := by simpa using he
              clear hx hna k56 hT6
              go_wp2
              go_ret
              exact ⟨rfl, hb6⟩
    · have hsb : (decide (V.nd ≤ 64) && decide (V.nh ≤ 1024) && decide (V.nl ≤ 12)) = false := by
        cases e : (decide (V.nd ≤ 64) && decide (V.nh ≤ 1024) && decide (V.nl ≤ 12)) with
        | false => rfl
        | true => exact absurd (by simpa [and_assoc] using e) hS
      rw [hsb] at hsm
      clear hsb hS
      go_wp2_with (go_at_call 8; refine hsm.mono ?_; rintro e w4 ⟨rfl, k4⟩)
      go_ret
      exact ⟨rfl, bt hbc k4⟩
end Go.Proofs.Ythibaefoioeghaa
