/-
  What layout.Groups, Descs, Journal, Inodes, GroupOf, Group and Plan answer.
-/
import Derived.Test.YtbimcdaplnmjdabLyCheck
namespace Go.Proofs.Ytbimcdaplnmjdab
open Go.RowKit
set_option linter.unusedSimpArgs false in
set_option maxHeartbeats 4000000 in
set_option maxRecDepth 100000 in
theorem grps_any (b j : Int) (w : World) : Calls Try.prog 13 #[.agg #[.int .i64 b, .int .i64 j]] w fun e w' => e = .returned (.int .i64 (grpsN b j)) ∧ Below w.heap.size w w' := by
  have hb0 := below_alloc w (.cells #[.int .i64 b, .int .i64 j] 23)
  have b0 := Blk.new' w 23 #[.int .i64 b, .int .i64 j]
  have hck := fun w => check_any b j w
  cases hok : okS b j with
  | false =>
    rw [chk_no hok] at hck
    rw [show grpsN b j = 0 from by unfold grpsN; rw [hok]; rfl]
    clear hok
    go_enter Try.func13, Try.ntmps13
    go_wp2_with (go_at_call 14; refine (hck _).mono ?_; rintro e w1 ⟨rfl, hb1⟩; have k1 := b0.kept hb1; have c0 := k1.cell' (i := 0) rfl; have c1 := k1.cell' (i := 1) rfl)
    go_ret
    exact ⟨rfl, (bt hb0 hb1)⟩
  | true =>
    rw [chk_ok hok] at hck
    obtain ⟨h1, h2, h3, h4, h5, h6⟩ := okS_iff.1 hok
    rw [show grpsN b j = gN b from by unfold grpsN; rw [hok]; rfl]
    clear hok h5 h6
    go_enter Try.func13, Try.ntmps13
    go_wp2_with (first
        | (go_at_call 14; refine (hck _).mono ?_; rintro e w1 ⟨rfl, hb1⟩; have k1 := b0.kept hb1; have c0 := k1.cell' (i := 0) rfl; have c1 := k1.cell' (i := 1) rfl)
        | (go_at_call 25; refine (groups_any b j _ h1 h2).mono ?_; rintro e w2 ⟨rfl, hb2⟩))
    go_ret
    exact ⟨rfl, (bt (bt hb0 hb1) hb2)⟩
theorem grpsN_rng (b j : Int) : 0 ≤ grpsN b j ∧ grpsN b j ≤ 64 := by
  unfold grpsN
  cases hok : okS b j with
  | false => simp
  | true =>
    obtain ⟨h1, h2, -⟩ := okS_iff.1 hok
    have := gN_rng h1 h2
    simp only [if_pos]
    omega
set_option linter.unusedSimpArgs false in
set_option maxHeartbeats 4000000 in
set_option maxRecDepth 100000 in
theorem inodes_any (b j : Int) (w : World) : Calls Try.prog 16 #[.agg #[.int .i64 b, .int .i64 j]] w fun e w' => e = .returned (.int .i64 (16 * grpsN b j)) ∧ Below w.heap.size w w' := by
  have hb0 := below_alloc w (.cells #[.int .i64 b, .int .i64 j] 23)
  have hg := grps_any b j
  have hr := grpsN_rng b j
  generalize grpsN b j = g at *
  have hr1 := hr.1
  have hr2 := hr.2
  clear hr
  go_enter Try.func16, Try.ntmps16
  go_wp2_with (go_at_call 13; refine (hg _).mono ?_; rintro e w2 ⟨rfl, hb2⟩)
  go_ret
  exact ⟨rfl, bt hb0 hb2⟩
end Go.Proofs.Ytbimcdaplnmjdab
