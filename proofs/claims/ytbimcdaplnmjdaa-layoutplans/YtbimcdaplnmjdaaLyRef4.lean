/-
  What the reference's Journal and Plan answer.
-/
import Derived.Test.YtbimcdaplnmjdaaLyRef3
namespace Go.Proofs.Ytbimcdaplnmjdaa
open Go.RowKit
set_option linter.unusedSimpArgs false in
set_option maxHeartbeats 4000000 in
set_option maxRecDepth 100000 in
theorem rjnl_any (b j : Int) (w : World) : Calls Try.prog 21 #[.agg #[.int .i64 b, .int .i64 j]] w fun e w' => e = .returned (.int .i64 (jnlN b j)) ∧ Below w.heap.size w w' := by
  have hb0 := below_alloc w (.cells #[.int .i64 b, .int .i64 j] 24)
  have hg := fun w => rgroup_any b j 0 w
  cases hok : okS b j with
  | false =>
    rw [(grp_no hok).1, (grp_no hok).2] at hg
    rw [show jnlN b j = 0 from by unfold jnlN; rw [hok]; rfl]
    unfold grp0 at hg
    clear hok
    go_enter Try.func21, Try.ntmps21
    go_wp2_with (go_at_call 13; refine (hg _).mono ?_; rintro e w1 ⟨rfl, hb1⟩)
    go_ret
    exact ⟨rfl, bt (bt hb0 hb1) (below_alloc _ _)⟩
  | true =>
    obtain ⟨h1, h2, h3, h4, -⟩ := okS_iff.1 hok
    have hgr := gN_rng h1 h2
    rw [(grp_ok hok (by omega)).1, (grp_ok hok (by omega)).2] at hg
    rw [show jnlN b j = 7 + dN b from by unfold jnlN; rw [hok]; rfl]
    have hd := dN_rng h1 h2
    unfold grpA gMap gData at hg
    simp only [if_pos] at hg
    generalize dN b = d at *
    have hd1 := hd.1
    have hd2 := hd.2
    generalize gLen b 0 = m at *
    clear hok hd hgr
    go_enter Try.func21, Try.ntmps21
    go_wp2_with (go_at_call 13; refine (hg _).mono ?_; rintro e w1 ⟨rfl, hb1⟩)
    go_ret
    exact ⟨ret_int (by omega), bt (bt hb0 hb1) (below_alloc _ _)⟩
set_option linter.unusedSimpArgs false in
set_option maxHeartbeats 4000000 in
set_option maxRecDepth 100000 in
theorem rplan_any (s j : Int) (w : World) : Calls Try.prog 11 #[.int .i64 s, .int .i64 j] w fun e w' => e = .returned (.tuple #[.agg #[.int .i64 (planB s j), .int .i64 (planJ s j)], .int .i64 (planE s j)]) ∧ Below w.heap.size w w' := by
  have hb0 := below_alloc w (.cells #[.int .i64 0, .int .i64 0] 24)
  have r0 := Blk.new' w 24 #[.int .i64 0, .int .i64 0]
  have s0 : Blk ((w.alloc (.cells #[.int .i64 0, .int .i64 0] 24)).alloc (.cells #[.int .i64 0, .int .i64 0] 24)) (w.heap.size + 1) 24 [.int .i64 0, .int .i64 0] := by
    have := Blk.new' (w.alloc (.cells #[.int .i64 0, .int .i64 0] 24)) 24 #[.int .i64 0, .int .i64 0]
    rw [World.size_alloc] at this; exact this
  by_cases q1 : s < 1
  · rw [(plan_far (s := s) (j := j) (by omega)).1, (plan_far (s := s) (j := j) (by omega)).2.1, (plan_far (s := s) (j := j) (by omega)).2.2]
    clear s0
    go_enter Try.func11, Try.ntmps11
    go_wp2_with (refine wpList_store_blk rfl 24 (.tmp 4) (.tmp 22) rfl _ 0 [.int .i64 0, .int .i64 0] rfl rfl r0 (by simp) size_shape one2 ?_; intro w8 b8 t8)
    refine ret_shapeE rfl rfl b8 rfl rfl ⟨rfl, t8.below hb0 (by omega)⟩
  by_cases q2 : 8192 < s
  · rw [(plan_far (s := s) (j := j) (by omega)).1, (plan_far (s := s) (j := j) (by omega)).2.1, (plan_far (s := s) (j := j) (by omega)).2.2]
    clear s0
    go_enter Try.func11, Try.ntmps11
    go_wp2_with (refine wpList_store_blk rfl 24 (.tmp 4) (.tmp 22) rfl _ 0 [.int .i64 0, .int .i64 0] rfl rfl r0 (by simp) size_shape one2 ?_; intro w8 b8 t8)
    refine ret_shapeE rfl rfl b8 rfl rfl ⟨rfl, t8.below hb0 (by omega)⟩
  by_cases q3 : j < 16
  · rw [(plan_far (s := s) (j := j) (by omega)).1, (plan_far (s := s) (j := j) (by omega)).2.1, (plan_far (s := s) (j := j) (by omega)).2.2]
    clear s0
    go_enter Try.func11, Try.ntmps11
    go_wp2_with (refine wpList_store_blk rfl 24 (.tmp 4) (.tmp 22) rfl _ 0 [.int .i64 0, .int .i64 0] rfl rfl r0 (by simp) size_shape one2 ?_; intro w8 b8 t8)
    refine ret_shapeE rfl rfl b8 rfl rfl ⟨rfl, t8.below hb0 (by omega)⟩
  by_cases q4 : 64 < j
  · rw [(plan_far (s := s) (j := j) (by omega)).1, (plan_far (s := s) (j := j) (by omega)).2.1, (plan_far (s := s) (j := j) (by omega)).2.2]
    clear s0
    go_enter Try.func11, Try.ntmps11
    go_wp2_with (refine wpList_store_blk rfl 24 (.tmp 4) (.tmp 22) rfl _ 0 [.int .i64 0, .int .i64 0] rfl rfl r0 (by simp) size_shape one2 ?_; intro w8 b8 t8)
    refine ret_shapeE rfl rfl b8 rfl rfl ⟨rfl, t8.below hb0 (by omega)⟩
  have h4 : 1 ≤ s ∧ s ≤ 8192 ∧ 16 ≤ j ∧ j ≤ 64 := by omega
  obtain ⟨l, HL⟩ : ∃ l, Hid (s % 128 = l) := ⟨_, rfl⟩
  have hl1 : 0 ≤ l := by rw [← HL.out]; omega
  have hl2 : l < 128 := by rw [← HL.out]; omega
  have hrem : s.tmod 128 = l := by rw [Int.tmod_eq_emod_of_nonneg (by omega)]; exact HL.out
  have hck := fun w => rchk_any (planX s) j w
  by_cases hl : l < 16
  · have HX : Hid (planX s = s - l) := by
      show _ = _
      have := HL.out
      unfold planX lastL
      split <;> omega
    rw [HX.out] at hck
    cases hok : okS (planX s) j with
    | false =>
      rw [(plan_no h4 hok).1, (plan_no h4 hok).2.1, (plan_no h4 hok).2.2]
      rw [HX.out] at hok
      rw [chk_no hok] at hck
      clear h4 hok
      go_enter Try.func11, Try.ntmps11
      go_wp2_with (first
          | (refine wpList_store_blk rfl 24 (.tmp 6) (.tmp 25) rfl _ 0 [.int .i64 s, .int .i64 j] rfl rfl s0 (by simp) size_shape one2 ?_; intro w1 b1 t1; have r1 := (r0.alloc (.cells #[.int .i64 0, .int .i64 0] 24)).turned t1 (by omega); have hB1 := t1.below (bt hb0 (below_alloc _ (.cells #[.int .i64 0, .int .i64 0] 24))) (by omega); have c0 := b1.cell' (i := 0) rfl; have c1 := b1.cell' (i := 1) rfl)
          | (refine wpList_store_cell rfl 3 (.tmp 34) (.tmp 33) rfl _ 0 (.int .i64 (s - l)) rfl rfl b1 (by simp) size_int rfl ?_; intro w3 b3 t3; have r3 := r1.turned t3 (by omega); have hB3 := t3.below hB1 (by omega); replace b3 : Blk w3 (w.heap.size + 1) 24 [.int .i64 (s - l), .int .i64 j] := b3; have f0 := b3.cell' (i := 0) rfl; have f1 := b3.cell' (i := 1) rfl)
          | (go_at_call 15; refine (hck _).mono ?_; rintro e w4 ⟨rfl, hb4⟩; have k4 := b3.kept hb4; have r4 := r3.kept hb4; have hB4 := bt hB3 hb4; have g0 := k4.cell' (i := 0) rfl; have g1 := k4.cell' (i := 1) rfl)
          | (refine wpList_store_blk rfl 24 (.tmp 4) (.tmp 38) rfl _ 0 [.int .i64 0, .int .i64 0] rfl rfl r4 (by simp) size_shape one2 ?_; intro w8 b8 t8))
      refine ret_shapeE rfl rfl b8 rfl rfl ⟨rfl, t8.below hB4 (by omega)⟩
    | true =>
      rw [(plan_ok h4 hok).1, (plan_ok h4 hok).2.1, (plan_ok h4 hok).2.2, HX.out]
      rw [HX.out] at hok
      rw [chk_ok hok] at hck
      clear h4 hok
      go_enter Try.func11, Try.ntmps11
      go_wp2_with (first
          | (refine wpList_store_blk rfl 24 (.tmp 6) (.tmp 25) rfl _ 0 [.int .i64 s, .int .i64 j] rfl rfl s0 (by simp) size_shape one2 ?_; intro w1 b1 t1; have r1 := (r0.alloc (.cells #[.int .i64 0, .int .i64 0] 24)).turned t1 (by omega); have hB1 := t1.below (bt hb0 (below_alloc _ (.cells #[.int .i64 0, .int .i64 0] 24))) (by omega); have c0 := b1.cell' (i := 0) rfl; have c1 := b1.cell' (i := 1) rfl)
          | (refine wpList_store_cell rfl 3 (.tmp 34) (.tmp 33) rfl _ 0 (.int .i64 (s - l)) rfl rfl b1 (by simp) size_int rfl ?_; intro w3 b3 t3; have r3 := r1.turned t3 (by omega); have hB3 := t3.below hB1 (by omega); replace b3 : Blk w3 (w.heap.size + 1) 24 [.int .i64 (s - l), .int .i64 j] := b3; have f0 := b3.cell' (i := 0) rfl; have f1 := b3.cell' (i := 1) rfl)
          | (go_at_call 15; refine (hck _).mono ?_; rintro e w4 ⟨rfl, hb4⟩; have k4 := b3.kept hb4; have r4 := r3.kept hb4; have hB4 := bt hB3 hb4; have g0 := k4.cell' (i := 0) rfl; have g1 := k4.cell' (i := 1) rfl)
          | (refine wpList_store_blk rfl 24 (.tmp 4) (.tmp 39) rfl _ 0 [.int .i64 (s - l), .int .i64 j] rfl rfl r4 (by simp) size_shape one2 ?_; intro w8 b8 t8))
      refine ret_shapeE rfl rfl b8 rfl rfl ⟨rfl, t8.below hB4 (by omega)⟩
  · have HX : Hid (planX s = s) := by
      show _ = _
      have := HL.out
      unfold planX lastL
      split <;> omega
    rw [HX.out] at hck
    cases hok : okS (planX s) j with
    | false =>
      rw [(plan_no h4 hok).1, (plan_no h4 hok).2.1, (plan_no h4 hok).2.2]
      rw [HX.out] at hok
      rw [chk_no hok] at hck
      clear h4 hok
      go_enter Try.func11, Try.ntmps11
      go_wp2_with (first
          | (refine wpList_store_blk rfl 24 (.tmp 6) (.tmp 25) rfl _ 0 [.int .i64 s, .int .i64 j] rfl rfl s0 (by simp) size_shape one2 ?_; intro w1 b1 t1; have r1 := (r0.alloc (.cells #[.int .i64 0, .int .i64 0] 24)).turned t1 (by omega); have hB1 := t1.below (bt hb0 (below_alloc _ (.cells #[.int .i64 0, .int .i64 0] 24))) (by omega); have c0 := b1.cell' (i := 0) rfl; have c1 := b1.cell' (i := 1) rfl)
          | (go_at_call 15; refine (hck _).mono ?_; rintro e w4 ⟨rfl, hb4⟩; have k4 := b1.kept hb4; have r4 := r1.kept hb4; have hB4 := bt hB1 hb4; have g0 := k4.cell' (i := 0) rfl; have g1 := k4.cell' (i := 1) rfl)
          | (refine wpList_store_blk rfl 24 (.tmp 4) (.tmp 38) rfl _ 0 [.int .i64 0, .int .i64 0] rfl rfl r4 (by simp) size_shape one2 ?_; intro w8 b8 t8))
      refine ret_shapeE rfl rfl b8 rfl rfl ⟨rfl, t8.below hB4 (by omega)⟩
    | true =>
      rw [(plan_ok h4 hok).1, (plan_ok h4 hok).2.1, (plan_ok h4 hok).2.2, HX.out]
      rw [HX.out] at hok
      rw [chk_ok hok] at hck
      clear h4 hok
      go_enter Try.func11, Try.ntmps11
      go_wp2_with (first
          | (refine wpList_store_blk rfl 24 (.tmp 6) (.tmp 25) rfl _ 0 [.int .i64 s, .int .i64 j] rfl rfl s0 (by simp) size_shape one2 ?_; intro w1 b1 t1; have r1 := (r0.alloc (.cells #[.int .i64 0, .int .i64 0] 24)).turned t1 (by omega); have hB1 := t1.below (bt hb0 (below_alloc _ (.cells #[.int .i64 0, .int .i64 0] 24))) (by omega); have c0 := b1.cell' (i := 0) rfl; have c1 := b1.cell' (i := 1) rfl)
          | (go_at_call 15; refine (hck _).mono ?_; rintro e w4 ⟨rfl, hb4⟩; have k4 := b1.kept hb4; have r4 := r1.kept hb4; have hB4 := bt hB1 hb4; have g0 := k4.cell' (i := 0) rfl; have g1 := k4.cell' (i := 1) rfl)
          | (refine wpList_store_blk rfl 24 (.tmp 4) (.tmp 39) rfl _ 0 [.int .i64 s, .int .i64 j] rfl rfl r4 (by simp) size_shape one2 ?_; intro w8 b8 t8))
      refine ret_shapeE rfl rfl b8 rfl rfl ⟨rfl, t8.below hB4 (by omega)⟩
end Go.Proofs.Ytbimcdaplnmjdaa
