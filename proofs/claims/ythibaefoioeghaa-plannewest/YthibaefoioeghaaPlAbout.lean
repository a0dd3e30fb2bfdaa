/-
  Which block a step is about.
-/
import Derived.Test.YthibaefoioeghaaPlMay
namespace Go.Proofs.Ythibaefoioeghaa
open Go.RowKit
def aboutP (T : Tab) (P : Nat) (kind block : Int) : Int :=
  if kind = 3 then block else if kind = 5 then T.sl else if kind = 6 then T.sl else if kind = 7 then T.sl else if kind = 8 then (victimP T).tdiv (P : Int) else 0
set_option linter.unusedSimpArgs false in
set_option maxRecDepth 100000 in
set_option maxHeartbeats 4000000 in
theorem about_any (V : TabV) (T : Tab) (P : Nat) (kind block : Int) (w : World) (h : TabIn w V T) (hP : T.pages = P) (hP0 : 4 ≤ P ∧ P ≤ 32) (hvb : -1 ≤ victimP T ∧ victimP T ≤ 100000000) :
    Calls Try.prog 32 #[.agg (tabA V T), .int .i64 kind, .int .i64 block] w fun e w' => e = .returned (.int .i64 (aboutP T P kind block)) ∧ Below w.heap.size w w' := by
  have hb0 := below_alloc w (.cells (tabA V T) 28)
  have b0 := Blk.new' w 28 (tabA V T)
  have hT := h.below hb0
  have hv := fun w' hb => victim_any V T w' (hT.below hb)
  have HM : Hid (aboutP T P kind block = if kind = 3 then block else if kind = 5 then T.sl else if kind = 6 then T.sl else if kind = 7 then T.sl else if kind = 8 then (victimP T).tdiv (P : Int) else 0) := rfl
  have hq0 : 0 ≤ (victimP T).tdiv (P : Int) ∧ (victimP T).tdiv (P : Int) ≤ 100000000 := by
    rcases Int.lt_or_le (victimP T) 0 with hn | hn
    · have e : victimP T = -1 := by omega
      rw [e, Int.neg_tdiv, Int.tdiv_eq_ediv_of_nonneg (by decide), Int.ediv_eq_zero_of_lt (by decide) (by omega)]
      decide
    · rw [Int.tdiv_eq_ediv_of_nonneg hn]
      exact ⟨Int.ediv_nonneg hn (by omega), Int.le_trans (Int.ediv_le_self _ hn) hvb.2⟩
  have hq : IntKind.i64.wrap ((victimP T).tdiv (P : Int)) = (victimP T).tdiv (P : Int) := by rw [IntKind.wrap_i64]; omega
  have hq2 : wrap64 ((victimP T).tdiv (P : Int)) = (victimP T).tdiv (P : Int) := (IntWalk.i64_left _).symm.trans hq
  have hp0 : ¬ P = 0 := by omega
  clear hT h hP0 hvb hq0
  generalize aboutP T P kind block = mm at *
  generalize victimP T = vi at *
  unfold tabA at hb0 b0 hv ⊢
  rw [hP] at hb0 b0 hv ⊢
  by_cases k3 : kind = 3
  · subst k3
    obtain ⟨_, _, _, _, _, _, z6⟩ : True ∧ True ∧ True ∧ True ∧ True ∧ True ∧ _ := ⟨trivial, trivial, trivial, trivial, trivial, trivial, b0.cell' (i := 6) rfl⟩
    have HN : Hid (block = mm) := by show _ = _; rw [HM.out]; simp []
    go_enter Try.func32, Try.ntmps32
    go_wp2_with fail
    go_ret
    exact ⟨by rw [HN.out]; rfl, hb0⟩
  · by_cases k5 : kind = 5
    · subst k5
      obtain ⟨_, _, _, _, _, _, z6⟩ : True ∧ True ∧ True ∧ True ∧ True ∧ True ∧ _ := ⟨trivial, trivial, trivial, trivial, trivial, trivial, b0.cell' (i := 6) rfl⟩
      have HN : Hid (T.sl = mm) := by show _ = _; rw [HM.out]; simp []
      go_enter Try.func32, Try.ntmps32
      go_wp2_with fail
      go_ret
      exact ⟨by rw [HN.out]; rfl, hb0⟩
    · by_cases k6 : kind = 6
      · subst k6
        obtain ⟨_, _, _, _, _, _, z6⟩ : True ∧ True ∧ True ∧ True ∧ True ∧ True ∧ _ := ⟨trivial, trivial, trivial, trivial, trivial, trivial, b0.cell' (i := 6) rfl⟩
        have HN : Hid (T.sl = mm) := by show _ = _; rw [HM.out]; simp []
        go_enter Try.func32, Try.ntmps32
        go_wp2_with fail
        go_ret
        exact ⟨by rw [HN.out]; rfl, hb0⟩
      · by_cases k7 : kind = 7
        · subst k7
          obtain ⟨_, _, _, _, _, _, z6⟩ : True ∧ True ∧ True ∧ True ∧ True ∧ True ∧ _ := ⟨trivial, trivial, trivial, trivial, trivial, trivial, b0.cell' (i := 6) rfl⟩
          have HN : Hid (T.sl = mm) := by show _ = _; rw [HM.out]; simp []
          go_enter Try.func32, Try.ntmps32
          go_wp2_with fail
          go_ret
          exact ⟨by rw [HN.out]; rfl, hb0⟩
        · by_cases k8 : kind = 8
          · subst k8
            have HN : Hid (vi.tdiv (P : Int) = mm) := by show _ = _; rw [HM.out]; simp
            go_enter Try.func32, Try.ntmps32
            go_upto_region 9 with (fail)
            refine wp_region_noPanic ?_
            refine wp_region_held_drew (S := Below (w.alloc (.cells #[.int .i64 (P : Int), .int .i64 T.logical, .int .i64 T.k, .slice V.pd V.nd V.cd, .slice V.ph V.nh V.ch, .int .i64 T.sp, .int .i64 T.sl, .int .i64 T.su, .slice V.pl V.nl V.cl] 28)).heap.size (w.alloc (.cells #[.int .i64 (P : Int), .int .i64 T.logical, .int .i64 T.k, .slice V.pd V.nd V.cd, .slice V.ph V.nh V.ch, .int .i64 T.sp, .int .i64 T.sl, .int .i64 T.su, .slice V.pl V.nl V.cl] 28))) (by kernel_rfl) (Below.refl _ _).drew (fun hHeld => ?_)
            refine wpAnyH_take (i := 0) (v := ?_) rfl (by kernel_rfl) (by kernel_rfl) (by kernel_rfl) (fun _ _ _ h => h) (Or.inl ⟨by rfl, ?_⟩) hHeld ?_
            rotate_left
            · intro w' hSw; try dsimp only at hSw
              have b1 := b0.kept hSw
              have y0 := b1.cell' (i := 0) rfl
              have y1 := b1.cell' (i := 1) rfl
              have y2 := b1.cell' (i := 2) rfl
              have y3 := b1.cell' (i := 3) rfl
              have y4 := b1.cell' (i := 4) rfl
              have y5 := b1.cell' (i := 5) rfl
              have y6 := b1.cell' (i := 6) rfl
              have y7 := b1.cell' (i := 7) rfl
              have y8 := b1.cell' (i := 8) rfl
              go_simp; try (with_reducible rfl)
            try simp only [Act.put, List.getElem_toArray, List.getElem_cons_succ, List.getElem_cons_zero, List.setIfInBounds_toArray, List.set_cons_zero, List.set_cons_succ]
            refine wpAnyH_take (i := 2) (v := ?_) rfl (by kernel_rfl) (by kernel_rfl) (by kernel_rfl) (fun _ _ _ h => h) (Or.inl ⟨by rfl, ?_⟩) hHeld ?_
            rotate_left
            · intro w' hSw; try dsimp only at hSw
              go_simp; try (with_reducible rfl)
            try simp only [Act.put, List.getElem_toArray, List.getElem_cons_succ, List.getElem_cons_zero, List.setIfInBounds_toArray, List.set_cons_zero, List.set_cons_succ]
            refine wpAnyH_take (i := 3) (v := ?_) rfl (by kernel_rfl) (by kernel_rfl) (by kernel_rfl) (fun _ _ _ h => h) (Or.inl ⟨by rfl, ?_⟩) hHeld ?_
            rotate_left
            · intro w' hSw; try dsimp only at hSw
              have b1 := b0.kept hSw
              have y0 := b1.cell' (i := 0) rfl
              have y1 := b1.cell' (i := 1) rfl
              have y2 := b1.cell' (i := 2) rfl
              have y3 := b1.cell' (i := 3) rfl
              have y4 := b1.cell' (i := 4) rfl
              have y5 := b1.cell' (i := 5) rfl
              have y6 := b1.cell' (i := 6) rfl
              have y7 := b1.cell' (i := 7) rfl
              have y8 := b1.cell' (i := 8) rfl
              go_simp; try (with_reducible rfl)
            try simp only [Act.put, List.getElem_toArray, List.getElem_cons_succ, List.getElem_cons_zero, List.setIfInBounds_toArray, List.set_cons_zero, List.set_cons_succ]
            refine wpAnyH_ready (rs := [1]) (by kernel_rfl) (by simp) ?_
            refine AllReadyH.cons rfl (fun K hK => ?_) AllReadyH.nil
            go_simp
            refine (hv _ hHeld).mono ?_
            rintro e w1 ⟨rfl, k1⟩
            try go_wp2_with fail
            refine hK.out _ _ (bt hHeld k1) (fun hHeld => ?_)
            clear hK K
            try simp only [Act.put, List.getElem_toArray, List.getElem_cons_succ, List.getElem_cons_zero, List.setIfInBounds_toArray, List.set_cons_zero, List.set_cons_succ]
            refine wpAnyH_take (i := 4) (v := ?_) rfl (by kernel_rfl) (by kernel_rfl) (by kernel_rfl) (fun _ _ _ h => h) (Or.inl ⟨by rfl, ?_⟩) hHeld ?_
            rotate_left
            · intro w' hSw; try dsimp only at hSw
              go_simp; try (with_reducible rfl)
            try simp only [Act.put, List.getElem_toArray, List.getElem_cons_succ, List.getElem_cons_zero, List.setIfInBounds_toArray, List.set_cons_zero, List.set_cons_succ]
            refine wpAnyH_take (i := 5) (v := ?_) rfl (by kernel_rfl) (by kernel_rfl) (by kernel_rfl) (fun _ _ _ h => h) (Or.inl ⟨by rfl, ?_⟩) hHeld ?_
            rotate_left
            · intro w' hSw; try dsimp only at hSw
              go_simp; try (with_reducible rfl)
            try simp only [Act.put, List.getElem_toArray, List.getElem_cons_succ, List.getElem_cons_zero, List.setIfInBounds_toArray, List.set_cons_zero, List.set_cons_succ]
            refine wpAnyH_done (by kernel_rfl) ?_ _
            refine NoPanic.normal ?_
            go_wp2_with fail
            go_ret
            exact ⟨by rw [HN.out]; rfl, bt hb0 hHeld⟩
          · skip
            have b3 : (kind == 3) = false := by simpa using k3
            have b5 : (kind == 5) = false := by simpa using k5
            have b6 : (kind == 6) = false := by simpa using k6
            have b7 : (kind == 7) = false := by simpa using k7
            have b8 : (kind == 8) = false := by simpa using k8
            obtain ⟨_, _, _, _, _, _, z6⟩ : True ∧ True ∧ True ∧ True ∧ True ∧ True ∧ _ := ⟨trivial, trivial, trivial, trivial, trivial, trivial, b0.cell' (i := 6) rfl⟩
            have HN : Hid (0 = mm) := by show _ = _; rw [HM.out]; simp [k3, k5, k6, k7, k8]
            go_enter Try.func32, Try.ntmps32
            go_wp2_with fail
            go_ret
            exact ⟨by rw [HN.out]; rfl, hb0⟩
end Go.Proofs.Ythibaefoioeghaa
