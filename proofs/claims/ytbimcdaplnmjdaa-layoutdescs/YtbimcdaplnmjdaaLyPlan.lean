/-
  What layout.Plan answers.
-/
import Derived.Test.YtbimcdaplnmjdaaLyGroup
namespace Go.Proofs.Ytbimcdaplnmjdaa
open Go.RowKit
/-- How many blocks so many sectors have. -/
def planX (s : Int) : Int := if lastL s < 16 then s - lastL s else s
/-- Plan's error, and its shape. -/
def planE (s j : Int) : Int := if 1 ≤ s ∧ s ≤ 8192 ∧ 16 ≤ j ∧ j ≤ 64 then chkE (planX s) j else 1
def planB (s j : Int) : Int := if planE s j = 0 then planX s else 0
def planJ (s j : Int) : Int := if planE s j = 0 then j else 0
theorem plan_far {s j : Int} (h : ¬ (1 ≤ s ∧ s ≤ 8192 ∧ 16 ≤ j ∧ j ≤ 64)) : planE s j = 1 ∧ planB s j = 0 ∧ planJ s j = 0 := by
  have e : planE s j = 1 := by unfold planE; rw [if_neg h]
  exact ⟨e, by unfold planB; rw [e]; rfl, by unfold planJ; rw [e]; rfl⟩
theorem plan_no {s j : Int} (h : 1 ≤ s ∧ s ≤ 8192 ∧ 16 ≤ j ∧ j ≤ 64) (hok : okS (planX s) j = false) : planE s j = 110 ∧ planB s j = 0 ∧ planJ s j = 0 := by
  have e : planE s j = 110 := by unfold planE; rw [if_pos h, chk_no hok]
  exact ⟨e, by unfold planB; rw [e]; rfl, by unfold planJ; rw [e]; rfl⟩
theorem plan_ok {s j : Int} (h : 1 ≤ s ∧ s ≤ 8192 ∧ 16 ≤ j ∧ j ≤ 64) (hok : okS (planX s) j = true) : planE s j = 0 ∧ planB s j = planX s ∧ planJ s j = j := by
  have e : planE s j = 0 := by unfold planE; rw [if_pos h, chk_ok hok]
  exact ⟨e, by unfold planB; rw [e]; rfl, by unfold planJ; rw [e]; rfl⟩
set_option linter.unusedSimpArgs false in
set_option maxHeartbeats 4000000 in
set_option maxRecDepth 100000 in
theorem plan_any (s j : Int) (w : World) : Calls Try.prog 10 #[.int .i64 s, .int .i64 j] w fun e w' => e = .returned (.tuple #[.agg #[.int .i64 (planB s j), .int .i64 (planJ s j)], .int .i64 (planE s j)]) ∧ Below w.heap.size w w' := by
  have hb0 := below_alloc w (.cells #[.int .i64 0, .int .i64 0] 24)
  have r0 := Blk.new' w 24 #[.int .i64 0, .int .i64 0]
  have s0 : Blk ((w.alloc (.cells #[.int .i64 0, .int .i64 0] 24)).alloc (.cells #[.int .i64 0, .int .i64 0] 24)) (w.heap.size + 1) 24 [.int .i64 0, .int .i64 0] := by
    have := Blk.new' (w.alloc (.cells #[.int .i64 0, .int .i64 0] 24)) 24 #[.int .i64 0, .int .i64 0]
    rw [World.size_alloc] at this; exact this
  by_cases hs : 1 ≤ s ∧ s ≤ 8192
  · by_cases hj : 16 ≤ j ∧ j ≤ 64
    · have h4 : 1 ≤ s ∧ s ≤ 8192 ∧ 16 ≤ j ∧ j ≤ 64 := ⟨hs.1, hs.2, hj.1, hj.2⟩
      obtain ⟨l, HL⟩ : ∃ l, Hid (lastL s = l) := ⟨_, rfl⟩
      have hl1 : 1 ≤ l := by rw [← HL.out]; unfold lastL; omega
      have hl2 : l ≤ 128 := by rw [← HL.out]; unfold lastL; omega
      have hll := fun w => lastLen_any s j w hs.1 hs.2
      rw [HL.out] at hll
      have hs1 := hs.1
      have hs2 := hs.2
      have hj1 := hj.1
      have hj2 := hj.2
      have HX : Hid (planX s = if l < 16 then s - l else s) := by show _ = _; unfold planX; rw [HL.out]
      have hck := fun w => check_any (planX s) j w
      by_cases hl : l < 16
      · rw [HX.out, if_pos hl] at hck
        cases hok : okS (planX s) j with
        | false =>
          rw [(plan_no h4 hok).1, (plan_no h4 hok).2.1, (plan_no h4 hok).2.2]
          rw [HX.out, if_pos hl] at hok
          rw [chk_no hok] at hck
          clear hs hj h4 hok
          go_enter Try.func10, Try.ntmps10
          go_wp2_with (first
              | (go_at_call 43; refine (within_yes _ (by omega) (by omega)).mono ?_; rintro e w' ⟨rfl, hw'⟩; have hw2 := hw'.symm; subst hw2; clear hw')
              | (refine wpList_store_blk rfl 24 (.tmp 6) (.tmp 20) rfl _ 0 [.int .i64 s, .int .i64 j] rfl rfl s0 (by simp) size_shape one2 ?_; intro w1 b1 t1; have r1 := (r0.alloc (.cells #[.int .i64 0, .int .i64 0] 24)).turned t1 (by omega); have hB1 := t1.below (bt hb0 (below_alloc _ (.cells #[.int .i64 0, .int .i64 0] 24))) (by omega); have c0 := b1.cell' (i := 0) rfl; have c1 := b1.cell' (i := 1) rfl)
              | (go_at_call 44; refine (hll _).mono ?_; rintro e w2 ⟨rfl, hb2⟩; have k1 := b1.kept hb2; have r2 := r1.kept hb2; have hB2 := bt hB1 hb2; have d0 := k1.cell' (i := 0) rfl; have d1 := k1.cell' (i := 1) rfl)
              | (refine wpList_store_cell rfl 3 (.tmp 29) (.tmp 28) rfl _ 0 (.int .i64 (s - l)) rfl rfl k1 (by simp) size_int rfl ?_; intro w3 b3 t3; have r3 := r2.turned t3 (by omega); have hB3 := t3.below hB2 (by omega); replace b3 : Blk w3 (w.heap.size + 1) 24 [.int .i64 (s - l), .int .i64 j] := b3; have f0 := b3.cell' (i := 0) rfl; have f1 := b3.cell' (i := 1) rfl)
              | (go_at_call 14; refine (hck _).mono ?_; rintro e w4 ⟨rfl, hb4⟩; have k4 := b3.kept hb4; have r4 := r3.kept hb4; have hB4 := bt hB3 hb4; have g0 := k4.cell' (i := 0) rfl; have g1 := k4.cell' (i := 1) rfl)
              | (refine wpList_store_blk rfl 24 (.tmp 4) (.tmp 34) rfl _ 0 [.int .i64 0, .int .i64 0] rfl rfl r4 (by simp) size_shape one2 ?_; intro w8 b8 t8))
          refine ret_shapeE rfl rfl b8 rfl rfl ⟨rfl, t8.below hB4 (by omega)⟩
        | true =>
          rw [(plan_ok h4 hok).1, (plan_ok h4 hok).2.1, (plan_ok h4 hok).2.2, HX.out, if_pos hl]
          rw [HX.out, if_pos hl] at hok
          rw [chk_ok hok] at hck
          clear hs hj h4 hok
          go_enter Try.func10, Try.ntmps10
          go_wp2_with (first
              | (go_at_call 43; refine (within_yes _ (by omega) (by omega)).mono ?_; rintro e w' ⟨rfl, hw'⟩; have hw2 := hw'.symm; subst hw2; clear hw')
              | (refine wpList_store_blk rfl 24 (.tmp 6) (.tmp 20) rfl _ 0 [.int .i64 s, .int .i64 j] rfl rfl s0 (by simp) size_shape one2 ?_; intro w1 b1 t1; have r1 := (r0.alloc (.cells #[.int .i64 0, .int .i64 0] 24)).turned t1 (by omega); have hB1 := t1.below (bt hb0 (below_alloc _ (.cells #[.int .i64 0, .int .i64 0] 24))) (by omega); have c0 := b1.cell' (i := 0) rfl; have c1 := b1.cell' (i := 1) rfl)
              | (go_at_call 44; refine (hll _).mono ?_; rintro e w2 ⟨rfl, hb2⟩; have k1 := b1.kept hb2; have r2 := r1.kept hb2; have hB2 := bt hB1 hb2; have d0 := k1.cell' (i := 0) rfl; have d1 := k1.cell' (i := 1) rfl)
              | (refine wpList_store_cell rfl 3 (.tmp 29) (.tmp 28) rfl _ 0 (.int .i64 (s - l)) rfl rfl k1 (by simp) size_int rfl ?_; intro w3 b3 t3; have r3 := r2.turned t3 (by omega); have hB3 := t3.below hB2 (by omega); replace b3 : Blk w3 (w.heap.size + 1) 24 [.int .i64 (s - l), .int .i64 j] := b3; have f0 := b3.cell' (i := 0) rfl; have f1 := b3.cell' (i := 1) rfl)
              | (go_at_call 14; refine (hck _).mono ?_; rintro e w4 ⟨rfl, hb4⟩; have k4 := b3.kept hb4; have r4 := r3.kept hb4; have hB4 := bt hB3 hb4; have g0 := k4.cell' (i := 0) rfl; have g1 := k4.cell' (i := 1) rfl)
              | (refine wpList_store_blk rfl 24 (.tmp 4) (.tmp 36) rfl _ 0 [.int .i64 (s - l), .int .i64 j] rfl rfl r4 (by simp) size_shape one2 ?_; intro w8 b8 t8))
          refine ret_shapeE rfl rfl b8 rfl rfl ⟨rfl, t8.below hB4 (by omega)⟩
      · rw [HX.out, if_neg hl] at hck
        cases hok : okS (planX s) j with
        | false =>
          rw [(plan_no h4 hok).1, (plan_no h4 hok).2.1, (plan_no h4 hok).2.2]
          rw [HX.out, if_neg hl] at hok
          rw [chk_no hok] at hck
          clear hs hj h4 hok
          go_enter Try.func10, Try.ntmps10
          go_wp2_with (first
              | (go_at_call 43; refine (within_yes _ (by omega) (by omega)).mono ?_; rintro e w' ⟨rfl, hw'⟩; have hw2 := hw'.symm; subst hw2; clear hw')
              | (refine wpList_store_blk rfl 24 (.tmp 6) (.tmp 20) rfl _ 0 [.int .i64 s, .int .i64 j] rfl rfl s0 (by simp) size_shape one2 ?_; intro w1 b1 t1; have r1 := (r0.alloc (.cells #[.int .i64 0, .int .i64 0] 24)).turned t1 (by omega); have hB1 := t1.below (bt hb0 (below_alloc _ (.cells #[.int .i64 0, .int .i64 0] 24))) (by omega); have c0 := b1.cell' (i := 0) rfl; have c1 := b1.cell' (i := 1) rfl)
              | (go_at_call 44; refine (hll _).mono ?_; rintro e w2 ⟨rfl, hb2⟩; have k1 := b1.kept hb2; have r2 := r1.kept hb2; have hB2 := bt hB1 hb2; have d0 := k1.cell' (i := 0) rfl; have d1 := k1.cell' (i := 1) rfl)
              | (go_at_call 14; refine (hck _).mono ?_; rintro e w4 ⟨rfl, hb4⟩; have k4 := k1.kept hb4; have r4 := r2.kept hb4; have hB4 := bt hB2 hb4; have g0 := k4.cell' (i := 0) rfl; have g1 := k4.cell' (i := 1) rfl)
              | (refine wpList_store_blk rfl 24 (.tmp 4) (.tmp 34) rfl _ 0 [.int .i64 0, .int .i64 0] rfl rfl r4 (by simp) size_shape one2 ?_; intro w8 b8 t8))
          refine ret_shapeE rfl rfl b8 rfl rfl ⟨rfl, t8.below hB4 (by omega)⟩
        | true =>
          rw [(plan_ok h4 hok).1, (plan_ok h4 hok).2.1, (plan_ok h4 hok).2.2, HX.out, if_neg hl]
          rw [HX.out, if_neg hl] at hok
          rw [chk_ok hok] at hck
          clear hs hj h4 hok
          go_enter Try.func10, Try.ntmps10
          go_wp2_with (first
              | (go_at_call 43; refine (within_yes _ (by omega) (by omega)).mono ?_; rintro e w' ⟨rfl, hw'⟩; have hw2 := hw'.symm; subst hw2; clear hw')
              | (refine wpList_store_blk rfl 24 (.tmp 6) (.tmp 20) rfl _ 0 [.int .i64 s, .int .i64 j] rfl rfl s0 (by simp) size_shape one2 ?_; intro w1 b1 t1; have r1 := (r0.alloc (.cells #[.int .i64 0, .int .i64 0] 24)).turned t1 (by omega); have hB1 := t1.below (bt hb0 (below_alloc _ (.cells #[.int .i64 0, .int .i64 0] 24))) (by omega); have c0 := b1.cell' (i := 0) rfl; have c1 := b1.cell' (i := 1) rfl)
              | (go_at_call 44; refine (hll _).mono ?_; rintro e w2 ⟨rfl, hb2⟩; have k1 := b1.kept hb2; have r2 := r1.kept hb2; have hB2 := bt hB1 hb2; have d0 := k1.cell' (i := 0) rfl; have d1 := k1.cell' (i := 1) rfl)
              | (go_at_call 14; refine (hck _).mono ?_; rintro e w4 ⟨rfl, hb4⟩; have k4 := k1.kept hb4; have r4 := r2.kept hb4; have hB4 := bt hB2 hb4; have g0 := k4.cell' (i := 0) rfl; have g1 := k4.cell' (i := 1) rfl)
              | (refine wpList_store_blk rfl 24 (.tmp 4) (.tmp 36) rfl _ 0 [.int .i64 s, .int .i64 j] rfl rfl r4 (by simp) size_shape one2 ?_; intro w8 b8 t8))
          refine ret_shapeE rfl rfl b8 rfl rfl ⟨rfl, t8.below hB4 (by omega)⟩
    · rw [(plan_far (s := s) (j := j) (by omega)).1, (plan_far (s := s) (j := j) (by omega)).2.1, (plan_far (s := s) (j := j) (by omega)).2.2]
      have hs1 := hs.1
      have hs2 := hs.2
      clear hs s0
      go_enter Try.func10, Try.ntmps10
      go_wp2_with fail
      refine (within_yes _ hs1 hs2).mono ?_
      rintro e w' ⟨rfl, hw'⟩
      have hw2 := hw'.symm; subst hw2; clear hw'
      go_wp2_with fail
      refine (within_no _ hj).mono ?_
      rintro e w' ⟨rfl, hw'⟩
      have hw2 := hw'.symm; subst hw2; clear hw'
      go_wp2_with (refine wpList_store_blk rfl 24 (.tmp 4) (.tmp 17) rfl _ 0 [.int .i64 0, .int .i64 0] rfl rfl r0 (by simp) size_shape one2 ?_; intro w8 b8 t8)
      refine ret_shapeE rfl rfl b8 rfl rfl ⟨rfl, t8.below hb0 (by omega)⟩
  · rw [(plan_far (s := s) (j := j) (by omega)).1, (plan_far (s := s) (j := j) (by omega)).2.1, (plan_far (s := s) (j := j) (by omega)).2.2]
    clear s0
    go_enter Try.func10, Try.ntmps10
    go_wp2_with (first
        | (go_at_call 43; refine (within_no _ hs).mono ?_; rintro e w' ⟨rfl, hw'⟩; have hw2 := hw'.symm; subst hw2; clear hw')
        | (refine wpList_store_blk rfl 24 (.tmp 4) (.tmp 17) rfl _ 0 [.int .i64 0, .int .i64 0] rfl rfl r0 (by simp) size_shape one2 ?_; intro w8 b8 t8))
    refine ret_shapeE rfl rfl b8 rfl rfl ⟨rfl, t8.below hb0 (by omega)⟩
end Go.Proofs.Ytbimcdaplnmjdaa
