/-
  What layout's small functions answer.
-/
import Derived.Test.YtbimcdaplnmjdaaLyP
namespace Go.Proofs.Ytbimcdaplnmjdaa
open Go.RowKit
theorem within_any (a b c : Int) (w : World) : Calls Try.prog 43 #[.int .i64 a, .int .i64 b, .int .i64 c] w fun e w' => e = .returned (.bool (decide (b ≤ a) && decide (a ≤ c))) ∧ w' = w := by
  by_cases h1 : b ≤ a
  · by_cases h2 : a ≤ c
    · go_enter Try.func43, Try.ntmps43
      go_wp2
      go_ret
      exact ⟨ret_bool (by simp [h1, h2]), rfl⟩
    · go_enter Try.func43, Try.ntmps43
      go_wp2
      go_ret
      exact ⟨ret_bool (by simp [h2]), rfl⟩
  · have e : (decide (b ≤ a) && decide (a ≤ c)) = false := by rw [decide_eq_false h1]; rfl
    rw [e]
    go_enter Try.func43, Try.ntmps43
    go_wp2
    go_ret
    exact ⟨rfl, rfl⟩
theorem within_yes {a b c : Int} (w : World) (h1 : b ≤ a) (h2 : a ≤ c) : Calls Try.prog 43 #[.int .i64 a, .int .i64 b, .int .i64 c] w fun e w' => e = .returned (.bool true) ∧ w' = w := by
  have := within_any a b c w; rwa [show (decide (b ≤ a) && decide (a ≤ c)) = true from by simp [h1, h2]] at this
theorem within_no {a b c : Int} (w : World) (h : ¬ (b ≤ a ∧ a ≤ c)) : Calls Try.prog 43 #[.int .i64 a, .int .i64 b, .int .i64 c] w fun e w' => e = .returned (.bool false) ∧ w' = w := by
  have := within_any a b c w; rwa [show (decide (b ≤ a) && decide (a ≤ c)) = false from by simp; omega] at this
theorem wrapB (q : Int) (h1 : -100000000 ≤ q) (h2 : q ≤ 100000000) : IntKind.i64.wrap q = q := by rw [IntKind.wrap_i64]; omega
theorem wrap64B (q : Int) (h1 : -100000000 ≤ q) (h2 : q ≤ 100000000) : wrap64 q = q := (IntWalk.i64_left _).symm.trans (wrapB q h1 h2)
theorem lastLen_any (b j : Int) (w : World) (h1 : 1 ≤ b) (h2 : b ≤ 8192) : Calls Try.prog 44 #[.agg #[.int .i64 b, .int .i64 j]] w fun e w' => e = .returned (.int .i64 (lastL b)) ∧ Below w.heap.size w w' := by
  have hb := below_alloc w (.cells #[.int .i64 b, .int .i64 j] 24)
  go_enter Try.func44, Try.ntmps44
  go_wp2
  go_ret
  exact ⟨ret_int (by unfold lastL; omega), hb⟩
theorem groups_any (b j : Int) (w : World) (h1 : 1 ≤ b) (h2 : b ≤ 8192) : Calls Try.prog 45 #[.agg #[.int .i64 b, .int .i64 j]] w fun e w' => e = .returned (.int .i64 (gN b)) ∧ Below w.heap.size w w' := by
  have hb := below_alloc w (.cells #[.int .i64 b, .int .i64 j] 24)
  go_enter Try.func45, Try.ntmps45
  go_wp2
  go_ret
  exact ⟨ret_int (by unfold gN; omega), hb⟩
theorem descs_any (b j : Int) (w : World) (h1 : 1 ≤ b) (h2 : b ≤ 8192) : Calls Try.prog 50 #[.agg #[.int .i64 b, .int .i64 j]] w fun e w' => e = .returned (.int .i64 (dN b)) ∧ Below w.heap.size w w' := by
  have hb := below_alloc w (.cells #[.int .i64 b, .int .i64 j] 24)
  have hg := gN_rng h1 h2
  obtain ⟨g, HG⟩ : ∃ g, Hid (gN b = g) := ⟨_, rfl⟩
  have hd : dN b = (g + 15) / 16 := by unfold dN; rw [HG.out]
  have hc := fun w => groups_any b j w h1 h2
  rw [hd]
  rw [HG.out] at hg hc
  clear hd
  go_enter Try.func50, Try.ntmps50
  go_wp2_with (go_at_call 45; refine (hc _).mono ?_; rintro e w1 ⟨rfl, hb1⟩)
  go_ret
  exact ⟨ret_int (by omega), bt hb hb1⟩
theorem tableEnd_any (x0 x1 x2 x3 x4 x5 : Int) (w : World) (h1 : -10000 ≤ x4) (h2 : x4 ≤ 100000) : Calls Try.prog 51 #[.agg #[.int .i64 x0, .int .i64 x1, .int .i64 x2, .int .i64 x3, .int .i64 x4, .int .i64 x5]] w fun e w' => e = .returned (.int .i64 (x4 + 4)) ∧ Below w.heap.size w w' := by
  have hb := below_alloc w (.cells #[.int .i64 x0, .int .i64 x1, .int .i64 x2, .int .i64 x3, .int .i64 x4, .int .i64 x5] 30)
  go_enter Try.func51, Try.ntmps51
  go_wp2
  go_ret
  exact ⟨rfl, hb⟩
theorem room_any (x0 x1 x2 x3 x4 x5 : Int) (w : World) (h0 : -10000 ≤ x0 ∧ x0 ≤ 100000) (h1 : -10000 ≤ x1 ∧ x1 ≤ 100000) (h5 : -10000 ≤ x5 ∧ x5 ≤ 100000) : Calls Try.prog 47 #[.agg #[.int .i64 x0, .int .i64 x1, .int .i64 x2, .int .i64 x3, .int .i64 x4, .int .i64 x5]] w fun e w' => e = .returned (.int .i64 (x0 + x1 - x5)) ∧ Below w.heap.size w w' := by
  have hb := below_alloc w (.cells #[.int .i64 x0, .int .i64 x1, .int .i64 x2, .int .i64 x3, .int .i64 x4, .int .i64 x5] 30)
  go_enter Try.func47, Try.ntmps47
  go_wp2
  go_ret
  exact ⟨rfl, hb⟩
theorem firstKind_any (g : Int) (w : World) : Calls Try.prog 53 #[.int .i64 g] w fun e w' => e = .returned (.int .i64 (if g = 0 then 1 else 3)) ∧ w' = w := by
  by_cases h : g = 0
  · rw [if_pos h]
    have hb : (g == 0) = true := by rw [h]; rfl
    clear h
    go_enter Try.func53, Try.ntmps53
    go_wp2
    go_ret
    exact ⟨rfl, rfl⟩
  · rw [if_neg h]
    have hb : (g == 0) = false := by simpa using h
    clear h
    go_enter Try.func53, Try.ntmps53
    go_wp2
    go_ret
    exact ⟨rfl, rfl⟩
end Go.Proofs.Ytbimcdaplnmjdaa
