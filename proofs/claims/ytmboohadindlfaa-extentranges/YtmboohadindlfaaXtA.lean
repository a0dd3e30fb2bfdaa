/-
  What One, end and the reference's One answer.
-/
import Derived.Test.YtmboohadindlfaaXtP
namespace Go.Proofs.Ytmboohadindlfaa
open Go.RowKit
set_option linter.unusedSimpArgs false in
set_option linter.unusedVariables false in
set_option maxRecDepth 100000 in
set_option maxHeartbeats 4000000 in
theorem one_any (e : Ext) (w : World) : Calls Try.prog 18 #[e.val] w fun x w' => x = .returned (.int .i64 (oneE e)) ∧ Below w.heap.size w w' := by
  obtain ⟨lo, ln, ph⟩ := e
  by_cases h0 : ln < 1
  · have HE : oneE ⟨lo, ln, ph⟩ = 130 := oneE_no (by simp [oneB]; omega)
    rw [HE]
    go_enter Try.func18, Try.ntmps18
    go_wp2
    go_ret
    exact ⟨rfl, below_alloc _ _⟩
  by_cases h1 : ln > 4096
  · have HE : oneE ⟨lo, ln, ph⟩ = 130 := oneE_no (by simp [oneB]; omega)
    rw [HE]
    go_enter Try.func18, Try.ntmps18
    go_wp2
    go_ret
    exact ⟨rfl, below_alloc _ _⟩
  by_cases h2 : lo < 0
  · have HE : oneE ⟨lo, ln, ph⟩ = 130 := oneE_no (by simp [oneB]; omega)
    rw [HE]
    go_enter Try.func18, Try.ntmps18
    go_wp2
    go_ret
    exact ⟨rfl, below_alloc _ _⟩
  by_cases h3 : lo > 65536 - ln
  · have HE : oneE ⟨lo, ln, ph⟩ = 130 := oneE_no (by simp [oneB]; omega)
    rw [HE]
    go_enter Try.func18, Try.ntmps18
    go_wp2
    go_ret
    exact ⟨rfl, below_alloc _ _⟩
  by_cases h4 : ph < 1
  · have HE : oneE ⟨lo, ln, ph⟩ = 130 := oneE_no (by simp [oneB]; omega)
    rw [HE]
    go_enter Try.func18, Try.ntmps18
    go_wp2
    go_ret
    exact ⟨rfl, below_alloc _ _⟩
  by_cases h5 : ph > 8192 - ln
  · have HE : oneE ⟨lo, ln, ph⟩ = 130 := oneE_no (by simp [oneB]; omega)
    rw [HE]
    go_enter Try.func18, Try.ntmps18
    go_wp2
    go_ret
    exact ⟨rfl, below_alloc _ _⟩
  have HE : oneE ⟨lo, ln, ph⟩ = 0 := oneE_ok (by simp [oneB]; omega)
  rw [HE]
  go_enter Try.func18, Try.ntmps18
  go_wp2
  go_ret
  exact ⟨rfl, below_alloc _ _⟩
set_option linter.unusedSimpArgs false in
set_option linter.unusedVariables false in
set_option maxRecDepth 100000 in
set_option maxHeartbeats 4000000 in
theorem rone_any (e : Ext) (w : World) : Calls Try.prog 19 #[e.val] w fun x w' => x = .returned (.int .i64 (oneE e)) ∧ Below w.heap.size w w' := by
  obtain ⟨lo, ln, ph⟩ := e
  by_cases h0 : lo < 0
  · have HE : oneE ⟨lo, ln, ph⟩ = 130 := oneE_no (by simp [oneB]; omega)
    rw [HE]
    go_enter Try.func19, Try.ntmps19
    go_wp2
    go_ret
    exact ⟨rfl, below_alloc _ _⟩
  by_cases h1 : lo ≥ 65536
  · have HE : oneE ⟨lo, ln, ph⟩ = 130 := oneE_no (by simp [oneB]; omega)
    rw [HE]
    go_enter Try.func19, Try.ntmps19
    go_wp2
    go_ret
    exact ⟨rfl, below_alloc _ _⟩
  by_cases h2 : ln < 1
  · have HE : oneE ⟨lo, ln, ph⟩ = 130 := oneE_no (by simp [oneB]; omega)
    rw [HE]
    go_enter Try.func19, Try.ntmps19
    go_wp2
    go_ret
    exact ⟨rfl, below_alloc _ _⟩
  by_cases h3 : ln > 4096
  · have HE : oneE ⟨lo, ln, ph⟩ = 130 := oneE_no (by simp [oneB]; omega)
    rw [HE]
    go_enter Try.func19, Try.ntmps19
    go_wp2
    go_ret
    exact ⟨rfl, below_alloc _ _⟩
  by_cases h4 : ph < 1
  · have HE : oneE ⟨lo, ln, ph⟩ = 130 := oneE_no (by simp [oneB]; omega)
    rw [HE]
    go_enter Try.func19, Try.ntmps19
    go_wp2
    go_ret
    exact ⟨rfl, below_alloc _ _⟩
  by_cases h5 : ph ≥ 8192
  · have HE : oneE ⟨lo, ln, ph⟩ = 130 := oneE_no (by simp [oneB]; omega)
    rw [HE]
    go_enter Try.func19, Try.ntmps19
    go_wp2
    go_ret
    exact ⟨rfl, below_alloc _ _⟩
  by_cases h6 : lo + ln > 65536
  · have HE : oneE ⟨lo, ln, ph⟩ = 130 := oneE_no (by simp [oneB]; omega)
    rw [HE]
    go_enter Try.func19, Try.ntmps19
    go_wp2
    go_ret
    exact ⟨rfl, below_alloc _ _⟩
  by_cases h7 : ph + ln > 8192
  · have HE : oneE ⟨lo, ln, ph⟩ = 130 := oneE_no (by simp [oneB]; omega)
    rw [HE]
    go_enter Try.func19, Try.ntmps19
    go_wp2
    go_ret
    exact ⟨rfl, below_alloc _ _⟩
  have HE : oneE ⟨lo, ln, ph⟩ = 0 := oneE_ok (by simp [oneB]; omega)
  rw [HE]
  go_enter Try.func19, Try.ntmps19
  go_wp2
  go_ret
  exact ⟨rfl, below_alloc _ _⟩
/-- end of an extent whose sum is no greater than an int. -/
theorem end_any (e : Ext) (w : World) (h : oneB e = true) : Calls Try.prog 37 #[e.val] w fun x w' => x = .returned (.int .i64 (endI e)) ∧ w' = w.alloc (.cells #[.int .i64 e.lo, .int .i64 e.ln, .int .i64 e.ph] 31) := by
  obtain ⟨lo, ln, ph⟩ := e
  rw [oneB_iff] at h
  dsimp only at h
  obtain ⟨h1, h2, h3, h4, h5, h6⟩ := h
  go_enter Try.func37, Try.ntmps37
  go_wp2
  go_ret
  exact ⟨rfl, rfl⟩
end Go.Proofs.Ytmboohadindlfaa
