/-
  What the reference's Groups, Descs, Inodes, GroupOf, Group and Journal answer.
-/
import Derived.Test.YtbimcdaplnmjdaaLyRef
namespace Go.Proofs.Ytbimcdaplnmjdaa
open Go.RowKit
set_option linter.unusedSimpArgs false in
set_option maxHeartbeats 4000000 in
set_option maxRecDepth 100000 in
theorem rgrps_any (b j : Int) (w : World) : Calls Try.prog 17 #[.agg #[.int .i64 b, .int .i64 j]] w fun e w' => e = .returned (.int .i64 (grpsN b j)) ∧ Below w.heap.size w w' := by
  have hb0 := below_alloc w (.cells #[.int .i64 b, .int .i64 j] 24)
  have b0 := Blk.new' w 24 #[.int .i64 b, .int .i64 j]
  have hck := fun w => rchk_any b j w
  cases hok : okS b j with
  | false =>
    rw [chk_no hok] at hck
    rw [show grpsN b j = 0 from by unfold grpsN; rw [hok]; rfl]
    clear hok
    go_enter Try.func17, Try.ntmps17
    go_wp2_with (go_at_call 15; refine (hck _).mono ?_; rintro e w1 ⟨rfl, hb1⟩; have k1 := b0.kept hb1; have c0 := k1.cell' (i := 0) rfl; have c1 := k1.cell' (i := 1) rfl)
    go_ret
    exact ⟨rfl, bt hb0 hb1⟩
  | true =>
    rw [chk_ok hok] at hck
    obtain ⟨h1, h2, h3, h4, h5, h6⟩ := okS_iff.1 hok
    rw [show grpsN b j = gN b from by unfold grpsN; rw [hok]; rfl]
    clear hok h5 h6
    go_enter Try.func17, Try.ntmps17
    go_wp2_with (first
        | (go_at_call 15; refine (hck _).mono ?_; rintro e w1 ⟨rfl, hb1⟩; have k1 := b0.kept hb1; have c0 := k1.cell' (i := 0) rfl; have c1 := k1.cell' (i := 1) rfl)
        | (go_at_call 48; refine (rgrp_any b _ h1 h2).mono ?_; rintro e w' ⟨rfl, hw'⟩; have hw2 := hw'.symm; subst hw2; clear hw'))
    go_ret
    exact ⟨rfl, bt hb0 hb1⟩
theorem descsN_of (b j : Int) : descsN b j = (grpsN b j + 15) / 16 := by
  unfold descsN grpsN
  cases okS b j with
  | false => rfl
  | true => rfl
set_option linter.unusedSimpArgs false in
set_option maxHeartbeats 4000000 in
set_option maxRecDepth 100000 in
theorem rdscs_any (b j : Int) (w : World) : Calls Try.prog 19 #[.agg #[.int .i64 b, .int .i64 j]] w fun e w' => e = .returned (.int .i64 (descsN b j)) ∧ Below w.heap.size w w' := by
  have hb0 := below_alloc w (.cells #[.int .i64 b, .int .i64 j] 24)
  have hg := rgrps_any b j
  have hr := grpsN_rng b j
  rw [descsN_of]
  generalize grpsN b j = g at *
  have hr1 := hr.1
  have hr2 := hr.2
  clear hr
  go_enter Try.func19, Try.ntmps19
  go_wp2_with (first
      | (go_at_call 17; refine (hg _).mono ?_; rintro e w2 ⟨rfl, hb2⟩)
      | (go_at_call 49; refine (rdsc_any g _ hr1 hr2).mono ?_; rintro e w' ⟨rfl, hw'⟩; have hw2 := hw'.symm; subst hw2; clear hw'))
  go_ret
  exact ⟨rfl, bt hb0 hb2⟩
set_option linter.unusedSimpArgs false in
set_option maxHeartbeats 4000000 in
set_option maxRecDepth 100000 in
theorem rinodes_any (b j : Int) (w : World) : Calls Try.prog 23 #[.agg #[.int .i64 b, .int .i64 j]] w fun e w' => e = .returned (.int .i64 (16 * grpsN b j)) ∧ Below w.heap.size w w' := by
  have hb0 := below_alloc w (.cells #[.int .i64 b, .int .i64 j] 24)
  have hg := rgrps_any b j
  have hr := grpsN_rng b j
  generalize grpsN b j = g at *
  have hr1 := hr.1
  have hr2 := hr.2
  clear hr
  go_enter Try.func23, Try.ntmps23
  go_wp2_with (go_at_call 17; refine (hg _).mono ?_; rintro e w2 ⟨rfl, hb2⟩)
  go_ret
  exact ⟨ret_int (by omega), bt hb0 hb2⟩
set_option linter.unusedSimpArgs false in
set_option maxHeartbeats 4000000 in
set_option maxRecDepth 100000 in
theorem rgroupOf_any (b j x : Int) (w : World) : Calls Try.prog 25 #[.agg #[.int .i64 b, .int .i64 j], .int .i64 x] w fun e w' => e = .returned (.tuple #[.int .i64 (gofN b j x), .bool (gofB b j x)]) ∧ Below w.heap.size w w' := by
  have hb0 := below_alloc w (.cells #[.int .i64 b, .int .i64 j] 24)
  have b0 := Blk.new' w 24 #[.int .i64 b, .int .i64 j]
  have hck := fun w => rchk_any b j w
  cases hok : okS b j with
  | false =>
    rw [chk_no hok] at hck
    rw [(gof_no (b := b) (j := j) (x := x) (by rw [hok]; simp)).1, (gof_no (b := b) (j := j) (x := x) (by rw [hok]; simp)).2]
    clear hok
    go_enter Try.func25, Try.ntmps25
    go_wp2_with (go_at_call 15; refine (hck _).mono ?_; rintro e w1 ⟨rfl, hb1⟩; have k1 := b0.kept hb1; have c0 := k1.cell' (i := 0) rfl; have c1 := k1.cell' (i := 1) rfl)
    go_ret2
    exact ⟨rfl, bt hb0 hb1⟩
  | true =>
    rw [chk_ok hok] at hck
    obtain ⟨h1, h2, -⟩ := okS_iff.1 hok
    by_cases hx1 : x < 0
    · rw [(gof_no (b := b) (j := j) (x := x) (by omega)).1, (gof_no (b := b) (j := j) (x := x) (by omega)).2]
      clear hok
      go_enter Try.func25, Try.ntmps25
      go_wp2_with (go_at_call 15; refine (hck _).mono ?_; rintro e w1 ⟨rfl, hb1⟩; have k1 := b0.kept hb1; have c0 := k1.cell' (i := 0) rfl; have c1 := k1.cell' (i := 1) rfl)
      go_ret2
      exact ⟨rfl, bt hb0 hb1⟩
    · by_cases hx2 : b ≤ x
      · rw [(gof_no (b := b) (j := j) (x := x) (by omega)).1, (gof_no (b := b) (j := j) (x := x) (by omega)).2]
        clear hok
        go_enter Try.func25, Try.ntmps25
        go_wp2_with (go_at_call 15; refine (hck _).mono ?_; rintro e w1 ⟨rfl, hb1⟩; have k1 := b0.kept hb1; have c0 := k1.cell' (i := 0) rfl; have c1 := k1.cell' (i := 1) rfl)
        go_ret2
        exact ⟨rfl, bt hb0 hb1⟩
      · rw [(gof_yes hok (by omega) (by omega)).1, (gof_yes hok (by omega) (by omega)).2]
        clear hok
        go_enter Try.func25, Try.ntmps25
        go_wp2_with (go_at_call 15; refine (hck _).mono ?_; rintro e w1 ⟨rfl, hb1⟩; have k1 := b0.kept hb1; have c0 := k1.cell' (i := 0) rfl; have c1 := k1.cell' (i := 1) rfl)
        go_ret2
        exact ⟨rfl, bt hb0 hb1⟩
end Go.Proofs.Ytbimcdaplnmjdaa
