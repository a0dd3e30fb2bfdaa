/-
  What layout.Group and Plan answer.
-/
import Derived.Test.YtbimcdaplnmjdaaLyTells
namespace Go.Proofs.Ytbimcdaplnmjdaa
open Go.RowKit
theorem grp_no {b j g : Int} (h : okS b j = false) : grpE b j g = 110 ∧ grpV b j g = grp0 := by
  have e : grpE b j g = 110 := by unfold grpE; rw [h]; rfl
  exact ⟨e, by unfold grpV; rw [e]; rfl⟩
theorem grp_far {b j g : Int} (h : okS b j = true) (hg : ¬ (0 ≤ g ∧ g < gN b)) : grpE b j g = 1 ∧ grpV b j g = grp0 := by
  have e : grpE b j g = 1 := by unfold grpE; rw [if_pos h, if_neg hg]
  exact ⟨e, by unfold grpV; rw [e]; rfl⟩
theorem grp_ok {b j g : Int} (h : okS b j = true) (hg : 0 ≤ g ∧ g < gN b) : grpE b j g = 0 ∧ grpV b j g = grpA b j g := by
  have e : grpE b j g = 0 := by unfold grpE; rw [if_pos h, if_pos hg]
  exact ⟨e, by unfold grpV; rw [e]; rfl⟩
set_option linter.unusedSimpArgs false in
set_option maxHeartbeats 4000000 in
set_option maxRecDepth 100000 in
theorem group_any (b j g : Int) (w : World) : Calls Try.prog 12 #[.agg #[.int .i64 b, .int .i64 j], .int .i64 g] w fun e w' => e = .returned (.tuple #[.agg (grpV b j g), .int .i64 (grpE b j g)]) ∧ Below w.heap.size w w' := by
  have hb0 := bt (below_alloc w (.cells #[.int .i64 b, .int .i64 j] 24)) (below_alloc _ (.cells #[.int .i64 0, .int .i64 0, .int .i64 0, .int .i64 0, .int .i64 0, .int .i64 0] 30))
  have b0 := (Blk.new' w 24 #[.int .i64 b, .int .i64 j]).alloc (.cells #[.int .i64 0, .int .i64 0, .int .i64 0, .int .i64 0, .int .i64 0, .int .i64 0] 30)
  have r0 : Blk ((w.alloc (.cells #[.int .i64 b, .int .i64 j] 24)).alloc (.cells #[.int .i64 0, .int .i64 0, .int .i64 0, .int .i64 0, .int .i64 0, .int .i64 0] 30)) (w.heap.size + 1) 30 [.int .i64 0, .int .i64 0, .int .i64 0, .int .i64 0, .int .i64 0, .int .i64 0] := by
    have := Blk.new' (w.alloc (.cells #[.int .i64 b, .int .i64 j] 24)) 30 #[.int .i64 0, .int .i64 0, .int .i64 0, .int .i64 0, .int .i64 0, .int .i64 0]
    rw [World.size_alloc] at this; exact this
  have hck := fun w => check_any b j w
  cases hok : okS b j with
  | false =>
    rw [chk_no hok] at hck
    rw [(grp_no (g := g) hok).1, (grp_no (g := g) hok).2]
    clear hok
    go_enter Try.func12, Try.ntmps12
    go_wp2_with (first
        | (go_at_call 14; refine (hck _).mono ?_; rintro e w1 ⟨rfl, hb1⟩; have k1 := b0.kept hb1; have r1 := r0.kept hb1; have hB1 := bt hb0 hb1; have c0 := k1.cell' (i := 0) rfl; have c1 := k1.cell' (i := 1) rfl)
        | (refine wpList_store_blk rfl 30 (.tmp 4) (.tmp 11) rfl _ 0 [.int .i64 0, .int .i64 0, .int .i64 0, .int .i64 0, .int .i64 0, .int .i64 0] rfl rfl r1 (by simp) size_group one6 ?_; intro w8 b8 t8))
    refine ret_groupE rfl rfl b8 rfl rfl ⟨rfl, t8.below hB1 (by omega)⟩
  | true =>
    rw [chk_ok hok] at hck
    obtain ⟨h1, h2, h3, h4, -⟩ := okS_iff.1 hok
    have hgr := gN_rng h1 h2
    have hgs := fun w => groups_any b j w h1 h2
    by_cases hg1 : 0 ≤ g ∧ g < gN b
    · have HF : Hid (grpE b j g = 0 ∧ grpV b j g = grpA b j g) := grp_ok hok hg1
      rw [HF.out.1, HF.out.2]
      have hp := fun w => place_any b j g w h1 h2 h3 h4 hg1.1 (by omega)
      unfold grpA at hp ⊢
      generalize gLen b g = x1 at *
      generalize gMap b g = x2 at *
      generalize gData b j g = x5 at *
      generalize gN b = n at *
      have hg2 := hg1.2
      replace hg1 := hg1.1
      have hn1 := hgr.1
      have hn2 := hgr.2
      clear hgr hok
      go_enter Try.func12, Try.ntmps12
      go_wp2_with (first
          | (go_at_call 14; refine (hck _).mono ?_; rintro e w1 ⟨rfl, hb1⟩; have k1 := b0.kept hb1; have r1 := r0.kept hb1; have hB1 := bt hb0 hb1; have c0 := k1.cell' (i := 0) rfl; have c1 := k1.cell' (i := 1) rfl)
          | (go_at_call 45; refine (hgs _).mono ?_; rintro e w2 ⟨rfl, hb2⟩; have k2 := k1.kept hb2; have d0 := k2.cell' (i := 0) rfl; have d1 := k2.cell' (i := 1) rfl; have r2 := r1.kept hb2; have hB2 := bt hB1 hb2)
          | (go_at_call 43; refine (within_yes _ (by omega) (by omega)).mono ?_; rintro e w' ⟨rfl, hw'⟩; have hw2 := hw'.symm; subst hw2; clear hw')
          | (go_at_call 46; refine (hp _).mono ?_; rintro e w3 ⟨rfl, hb3⟩; have r3 := r2.kept hb3; have hB3 := bt hB2 hb3)
          | (refine wpList_store_blk rfl 30 (.tmp 4) (.tmp 22) rfl _ 0 [.int .i64 (128 * g), .int .i64 x1, .int .i64 x2, .int .i64 (x2 + 1), .int .i64 (x2 + 2), .int .i64 x5] rfl rfl r3 (by simp) size_group one6 ?_; intro w8 b8 t8))
      refine ret_groupE rfl rfl b8 rfl rfl ⟨rfl, t8.below hB3 (by omega)⟩
    · rw [(grp_far hok hg1).1, (grp_far hok hg1).2]
      generalize gN b = n at *
      have hn1 := hgr.1
      have hn2 := hgr.2
      clear hgr hok
      go_enter Try.func12, Try.ntmps12
      go_wp2_with (first
          | (go_at_call 14; refine (hck _).mono ?_; rintro e w1 ⟨rfl, hb1⟩; have k1 := b0.kept hb1; have r1 := r0.kept hb1; have hB1 := bt hb0 hb1; have c0 := k1.cell' (i := 0) rfl; have c1 := k1.cell' (i := 1) rfl)
          | (go_at_call 45; refine (hgs _).mono ?_; rintro e w2 ⟨rfl, hb2⟩; have k2 := k1.kept hb2; have d0 := k2.cell' (i := 0) rfl; have d1 := k2.cell' (i := 1) rfl; have r2 := r1.kept hb2; have hB2 := bt hB1 hb2)
          | (go_at_call 43; refine (within_no _ (by omega)).mono ?_; rintro e w' ⟨rfl, hw'⟩; have hw2 := hw'.symm; subst hw2; clear hw')
          | (refine wpList_store_blk rfl 30 (.tmp 4) (.tmp 19) rfl _ 0 [.int .i64 0, .int .i64 0, .int .i64 0, .int .i64 0, .int .i64 0, .int .i64 0] rfl rfl r2 (by simp) size_group one6 ?_; intro w8 b8 t8))
      refine ret_groupE rfl rfl b8 rfl rfl ⟨rfl, t8.below hB2 (by omega)⟩
end Go.Proofs.Ytbimcdaplnmjdaa
