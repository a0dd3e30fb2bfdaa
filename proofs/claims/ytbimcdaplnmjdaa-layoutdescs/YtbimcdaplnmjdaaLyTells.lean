/-
  What layout.Groups, Descs, Journal, Inodes, GroupOf, Group and Plan answer.
-/
import Derived.Test.YtbimcdaplnmjdaaLyCheck
namespace Go.Proofs.Ytbimcdaplnmjdaa
open Go.RowKit
set_option linter.unusedSimpArgs false in
set_option maxHeartbeats 4000000 in
set_option maxRecDepth 100000 in
theorem grps_any (b j : Int) (w : World) : Calls Try.prog 16 #[.agg #[.int .i64 b, .int .i64 j]] w fun e w' => e = .returned (.int .i64 (grpsN b j)) ∧ Below w.heap.size w w' := by
  have hb0 := below_alloc w (.cells #[.int .i64 b, .int .i64 j] 24)
  have b0 := Blk.new' w 24 #[.int .i64 b, .int .i64 j]
  have hck := fun w => check_any b j w
  cases hok : okS b j with
  | false =>
    rw [chk_no hok] at hck
    rw [show grpsN b j = 0 from by unfold grpsN; rw [hok]; rfl]
    clear hok
    go_enter Try.func16, Try.ntmps16
    go_wp2_with (go_at_call 14; refine (hck _).mono ?_; rintro e w1 ⟨rfl, hb1⟩; have k1 := b0.kept hb1; have c0 := k1.cell' (i := 0) rfl; have c1 := k1.cell' (i := 1) rfl)
    go_ret
    exact ⟨rfl, (bt hb0 hb1)⟩
  | true =>
    rw [chk_ok hok] at hck
    obtain ⟨h1, h2, h3, h4, h5, h6⟩ := okS_iff.1 hok
    rw [show grpsN b j = gN b from by unfold grpsN; rw [hok]; rfl]
    clear hok h5 h6
    go_enter Try.func16, Try.ntmps16
    go_wp2_with (first
        | (go_at_call 14; refine (hck _).mono ?_; rintro e w1 ⟨rfl, hb1⟩; have k1 := b0.kept hb1; have c0 := k1.cell' (i := 0) rfl; have c1 := k1.cell' (i := 1) rfl)
        | (go_at_call 45; refine (groups_any b j _ h1 h2).mono ?_; rintro e w2 ⟨rfl, hb2⟩))
    go_ret
    exact ⟨rfl, (bt (bt hb0 hb1) hb2)⟩
set_option linter.unusedSimpArgs false in
set_option maxHeartbeats 4000000 in
set_option maxRecDepth 100000 in
theorem dscs_any (b j : Int) (w : World) : Calls Try.prog 18 #[.agg #[.int .i64 b, .int .i64 j]] w fun e w' => e = .returned (.int .i64 (descsN b j)) ∧ Below w.heap.size w w' := by
  have hb0 := below_alloc w (.cells #[.int .i64 b, .int .i64 j] 24)
  have b0 := Blk.new' w 24 #[.int .i64 b, .int .i64 j]
  have hck := fun w => check_any b j w
  cases hok : okS b j with
  | false =>
    rw [chk_no hok] at hck
    rw [show descsN b j = 0 from by unfold descsN; rw [hok]; rfl]
    clear hok
    go_enter Try.func18, Try.ntmps18
    go_wp2_with (go_at_call 14; refine (hck _).mono ?_; rintro e w1 ⟨rfl, hb1⟩; have k1 := b0.kept hb1; have c0 := k1.cell' (i := 0) rfl; have c1 := k1.cell' (i := 1) rfl)
    go_ret
    exact ⟨rfl, (bt hb0 hb1)⟩
  | true =>
    rw [chk_ok hok] at hck
    obtain ⟨h1, h2, h3, h4, h5, h6⟩ := okS_iff.1 hok
    rw [show descsN b j = dN b from by unfold descsN; rw [hok]; rfl]
    clear hok h5 h6
    go_enter Try.func18, Try.ntmps18
    go_wp2_with (first
        | (go_at_call 14; refine (hck _).mono ?_; rintro e w1 ⟨rfl, hb1⟩; have k1 := b0.kept hb1; have c0 := k1.cell' (i := 0) rfl; have c1 := k1.cell' (i := 1) rfl)
        | (go_at_call 50; refine (descs_any b j _ h1 h2).mono ?_; rintro e w2 ⟨rfl, hb2⟩))
    go_ret
    exact ⟨rfl, (bt (bt hb0 hb1) hb2)⟩
set_option linter.unusedSimpArgs false in
set_option maxHeartbeats 4000000 in
set_option maxRecDepth 100000 in
theorem jnl_any (b j : Int) (w : World) : Calls Try.prog 20 #[.agg #[.int .i64 b, .int .i64 j]] w fun e w' => e = .returned (.int .i64 (jnlN b j)) ∧ Below w.heap.size w w' := by
  have hb0 := below_alloc w (.cells #[.int .i64 b, .int .i64 j] 24)
  have b0 := Blk.new' w 24 #[.int .i64 b, .int .i64 j]
  have hck := fun w => check_any b j w
  cases hok : okS b j with
  | false =>
    rw [chk_no hok] at hck
    rw [show jnlN b j = 0 from by unfold jnlN; rw [hok]; rfl]
    clear hok
    go_enter Try.func20, Try.ntmps20
    go_wp2_with (go_at_call 14; refine (hck _).mono ?_; rintro e w1 ⟨rfl, hb1⟩; have k1 := b0.kept hb1; have c0 := k1.cell' (i := 0) rfl; have c1 := k1.cell' (i := 1) rfl)
    go_ret
    exact ⟨rfl, (bt hb0 hb1)⟩
  | true =>
    rw [chk_ok hok] at hck
    obtain ⟨h1, h2, h3, h4, h5, h6⟩ := okS_iff.1 hok
    rw [show jnlN b j = 7 + dN b from by unfold jnlN; rw [hok]; rfl]
    clear hok h5 h6
    obtain ⟨d, HD⟩ : ∃ d, Hid (dN b = d) := ⟨_, rfl⟩
    have hd1 : 1 ≤ d := by rw [← HD.out]; exact (dN_rng h1 h2).1
    have hd2 : d ≤ 4 := by rw [← HD.out]; exact (dN_rng h1 h2).2
    obtain ⟨m, HM⟩ : ∃ m, Hid (min 128 b = m) := ⟨_, rfl⟩
    rw [HD.out]
    have hp : ∀ w : World, Calls Try.prog 46 #[.agg #[.int .i64 b, .int .i64 j], .int .i64 0] w fun e w' => e = .returned (.agg #[.int .i64 0, .int .i64 m, .int .i64 (1 + d), .int .i64 (1 + d + 1), .int .i64 (1 + d + 2), .int .i64 (7 + d + j)]) ∧ Below w.heap.size w w' := by
      intro w
      have := place_zero b j w h1 h2 h3 h4
      unfold grpA gMap gData gLen at this
      rw [HD.out] at this
      simp only [if_pos, Int.mul_zero, Int.sub_zero] at this
      rw [HM.out] at this
      exact this
    go_enter Try.func20, Try.ntmps20
    go_wp2_with (first
        | (go_at_call 14; refine (hck _).mono ?_; rintro e w1 ⟨rfl, hb1⟩; have k1 := b0.kept hb1; have c0 := k1.cell' (i := 0) rfl; have c1 := k1.cell' (i := 1) rfl)
        | (go_at_call 46; refine (hp _).mono ?_; rintro e w2 ⟨rfl, hb2⟩)
        | (go_at_call 51; refine (tableEnd_any _ _ _ _ _ _ _ (by omega) (by omega)).mono ?_; rintro e w3 ⟨rfl, hb3⟩))
    go_ret
    exact ⟨ret_int (by omega), (bt (bt (bt hb0 hb1) hb2) hb3)⟩
theorem grpsN_rng (b j : Int) : 0 ≤ grpsN b j ∧ grpsN b j ≤ 64 := by
  unfold grpsN
  cases hok : okS b j with
  | false => simp
  | true =>
    obtain ⟨h1, h2, -⟩ := okS_iff.1 hok
    have := gN_rng h1 h2
    simp only [if_pos]
    omega
set_option linter.unusedSimpArgs false in
set_option maxHeartbeats 4000000 in
set_option maxRecDepth 100000 in
theorem inodes_any (b j : Int) (w : World) : Calls Try.prog 22 #[.agg #[.int .i64 b, .int .i64 j]] w fun e w' => e = .returned (.int .i64 (16 * grpsN b j)) ∧ Below w.heap.size w w' := by
  have hb0 := below_alloc w (.cells #[.int .i64 b, .int .i64 j] 24)
  have hg := grps_any b j
  have hr := grpsN_rng b j
  generalize grpsN b j = g at *
  have hr1 := hr.1
  have hr2 := hr.2
  clear hr
  go_enter Try.func22, Try.ntmps22
  go_wp2_with (go_at_call 16; refine (hg _).mono ?_; rintro e w2 ⟨rfl, hb2⟩)
  go_ret
  exact ⟨rfl, bt hb0 hb2⟩
/-- The group of a block, and whether it has one. -/
def gofB (b j x : Int) : Bool := okS b j && decide (0 ≤ x ∧ x < b)
def gofN (b j x : Int) : Int := if gofB b j x then x / 128 else 0
theorem gof_yes {b j x : Int} (h : okS b j = true) (h1 : 0 ≤ x) (h2 : x < b) : gofB b j x = true ∧ gofN b j x = x / 128 := by
  have e : gofB b j x = true := by unfold gofB; rw [h]; simp [h1, h2]
  exact ⟨e, by unfold gofN; rw [if_pos e]⟩
theorem gof_no {b j x : Int} (h : ¬ (okS b j = true ∧ 0 ≤ x ∧ x < b)) : gofB b j x = false ∧ gofN b j x = 0 := by
  have e : gofB b j x = false := by
    cases hq : gofB b j x with
    | false => rfl
    | true => unfold gofB at hq; simp only [Bool.and_eq_true, decide_eq_true_eq] at hq; exact absurd hq h
  exact ⟨e, by unfold gofN; rw [e]; rfl⟩
set_option linter.unusedSimpArgs false in
set_option maxHeartbeats 4000000 in
set_option maxRecDepth 100000 in
theorem groupOf_any (b j x : Int) (w : World) : Calls Try.prog 24 #[.agg #[.int .i64 b, .int .i64 j], .int .i64 x] w fun e w' => e = .returned (.tuple #[.int .i64 (gofN b j x), .bool (gofB b j x)]) ∧ Below w.heap.size w w' := by
  have hb0 := below_alloc w (.cells #[.int .i64 b, .int .i64 j] 24)
  have b0 := Blk.new' w 24 #[.int .i64 b, .int .i64 j]
  have hck := fun w => check_any b j w
  cases hok : okS b j with
  | false =>
    rw [chk_no hok] at hck
    rw [(gof_no (b := b) (j := j) (x := x) (by rw [hok]; simp)).1, (gof_no (b := b) (j := j) (x := x) (by rw [hok]; simp)).2]
    clear hok
    go_enter Try.func24, Try.ntmps24
    go_wp2_with (go_at_call 14; refine (hck _).mono ?_; rintro e w1 ⟨rfl, hb1⟩; have k1 := b0.kept hb1; have c0 := k1.cell' (i := 0) rfl; have c1 := k1.cell' (i := 1) rfl)
    go_ret2
    exact ⟨rfl, bt hb0 hb1⟩
  | true =>
    rw [chk_ok hok] at hck
    obtain ⟨h1, h2, -⟩ := okS_iff.1 hok
    by_cases hx1 : 0 ≤ x
    · by_cases hx2 : x ≤ b - 1
      · rw [(gof_yes hok hx1 (by omega)).1, (gof_yes hok hx1 (by omega)).2]
        clear hok
        go_enter Try.func24, Try.ntmps24
        go_wp2_with (first
            | (go_at_call 43; refine (within_any _ _ _ _).mono ?_; rintro e w' ⟨rfl, hw'⟩; have hw2 := hw'.symm; subst hw2; clear hw')
            | (go_at_call 14; refine (hck _).mono ?_; rintro e w1 ⟨rfl, hb1⟩; have k1 := b0.kept hb1; have c0 := k1.cell' (i := 0) rfl; have c1 := k1.cell' (i := 1) rfl))
        go_ret2
        exact ⟨rfl, bt hb0 hb1⟩
      · rw [(gof_no (b := b) (j := j) (x := x) (by omega)).1, (gof_no (b := b) (j := j) (x := x) (by omega)).2]
        clear hok
        go_enter Try.func24, Try.ntmps24
        go_wp2_with (first
            | (go_at_call 43; refine (within_no _ (by omega)).mono ?_; rintro e w' ⟨rfl, hw'⟩; have hw2 := hw'.symm; subst hw2; clear hw')
            | (go_at_call 14; refine (hck _).mono ?_; rintro e w1 ⟨rfl, hb1⟩; have k1 := b0.kept hb1; have c0 := k1.cell' (i := 0) rfl; have c1 := k1.cell' (i := 1) rfl))
        go_ret2
        exact ⟨rfl, bt hb0 hb1⟩
    · rw [(gof_no (b := b) (j := j) (x := x) (by omega)).1, (gof_no (b := b) (j := j) (x := x) (by omega)).2]
      clear hok
      go_enter Try.func24, Try.ntmps24
      go_wp2_with (first
          | (go_at_call 43; refine (within_no _ (by omega)).mono ?_; rintro e w' ⟨rfl, hw'⟩; have hw2 := hw'.symm; subst hw2; clear hw')
          | (go_at_call 14; refine (hck _).mono ?_; rintro e w1 ⟨rfl, hb1⟩; have k1 := b0.kept hb1; have c0 := k1.cell' (i := 0) rfl; have c1 := k1.cell' (i := 1) rfl))
      go_ret2
      exact ⟨rfl, bt hb0 hb1⟩
end Go.Proofs.Ytbimcdaplnmjdaa
