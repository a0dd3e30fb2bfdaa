/-
  What page.Newer and page.Check answer, and the widths of a header's fields.
-/
import Derived.Test.YtfgelncfmopibaaXPgLit
namespace Go.Proofs.Ytfgelncfmopibaa.Pg
open Go.RowKit
/-- Whether a header with Seq s and Stamp t is newer than one with s' and t'. -/
def newB (s t s' t' : Int) : Bool := decide (s' < s) || (decide (s = s') && decide (t < t'))
theorem newer_any (k g s t k' g' s' t' : Int) (w : World) :
    Calls Try.prog 71 #[.agg #[.int .i64 k, .int .i64 g, .int .i64 s, .int .i64 t], .agg #[.int .i64 k', .int .i64 g', .int .i64 s', .int .i64 t']] w fun e w' => e = .returned (.bool (newB s t s' t')) ∧ Below w.heap.size w w' := by
  by_cases h : s = s'
  · subst h
    have e : newB s t s t' = decide (t < t') := by simp [newB]
    rw [e]
    clear e
    go_enter Try.func71, Try.ntmps71
    go_wp2
    go_ret
    exact ⟨rfl, bt (below_alloc w _) (below_alloc _ _)⟩
  · have e : newB s t s' t' = decide (s' < s) := by simp [newB, h]
    rw [e]
    clear e
    have hb : (s != s') = true := by rw [bne_iff_ne]; exact h
    clear h
    go_enter Try.func71, Try.ntmps71
    go_wp2
    go_ret
    exact ⟨rfl, bt (below_alloc w _) (below_alloc _ _)⟩
/-- Whether a header may be. -/
def chkB (k g s t : Int) : Bool := decide (1 ≤ k ∧ k ≤ 3 ∧ 0 ≤ g ∧ g < 1048576 ∧ 1 ≤ s ∧ s ≤ 1152921504606846976 ∧ s ≤ t ∧ t ≤ 1152921504606846976 ∧ (k = 1 ∨ t = s))
/-- 30 is ErrHeader. -/
def chkE (k g s t : Int) : Int := if chkB k g s t then 0 else 30
theorem chk_no {k g s t : Int} (h : ¬ (1 ≤ k ∧ k ≤ 3 ∧ 0 ≤ g ∧ g < 1048576 ∧ 1 ≤ s ∧ s ≤ 1152921504606846976 ∧ s ≤ t ∧ t ≤ 1152921504606846976 ∧ (k = 1 ∨ t = s))) : chkE k g s t = 30 := by
  unfold chkE chkB; rw [if_neg (by simpa using h)]
theorem chk_ok {k g s t : Int} (h : 1 ≤ k ∧ k ≤ 3 ∧ 0 ≤ g ∧ g < 1048576 ∧ 1 ≤ s ∧ s ≤ 1152921504606846976 ∧ s ≤ t ∧ t ≤ 1152921504606846976 ∧ (k = 1 ∨ t = s)) : chkE k g s t = 0 := by
  unfold chkE chkB; rw [if_pos (by simpa using h)]
theorem check_any (k g s t : Int) (w : World) :
    Calls Try.prog 42 #[.agg #[.int .i64 k, .int .i64 g, .int .i64 s, .int .i64 t]] w fun e w' => e = .returned (.int .i64 (chkE k g s t)) ∧ Below w.heap.size w w' := by
  by_cases h1 : k < 1
  · rw [chk_no (by omega)]
    go_enter Try.func42, Try.ntmps42
    go_wp2
    go_ret
    exact ⟨rfl, below_alloc _ _⟩
  by_cases h2 : 3 < k
  · rw [chk_no (by omega)]
    go_enter Try.func42, Try.ntmps42
    go_wp2
    go_ret
    exact ⟨rfl, below_alloc _ _⟩
  by_cases h3 : g < 0
  · rw [chk_no (by omega)]
    go_enter Try.func42, Try.ntmps42
    go_wp2
    go_ret
    exact ⟨rfl, below_alloc _ _⟩
  by_cases h4 : 1048576 ≤ g
  · rw [chk_no (by omega)]
    go_enter Try.func42, Try.ntmps42
    go_wp2
    go_ret
    exact ⟨rfl, below_alloc _ _⟩
  by_cases h5 : s < 1
  · rw [chk_no (by omega)]
    go_enter Try.func42, Try.ntmps42
    go_wp2
    go_ret
    exact ⟨rfl, below_alloc _ _⟩
  by_cases h6 : 1152921504606846976 < s
  · rw [chk_no (by omega)]
    go_enter Try.func42, Try.ntmps42
    go_wp2
    go_ret
    exact ⟨rfl, below_alloc _ _⟩
  by_cases h7 : t < s
  · rw [chk_no (by omega)]
    go_enter Try.func42, Try.ntmps42
    go_wp2
    go_ret
    exact ⟨rfl, below_alloc _ _⟩
  by_cases h8 : 1152921504606846976 < t
  · rw [chk_no (by omega)]
    go_enter Try.func42, Try.ntmps42
    go_wp2
    go_ret
    exact ⟨rfl, below_alloc _ _⟩
  by_cases h9 : k = 1
  · have hb : (k != 1) = false := by rw [h9]; rfl
    rw [chk_ok (by omega)]
    clear h9
    go_enter Try.func42, Try.ntmps42
    go_wp2
    go_ret
    exact ⟨rfl, below_alloc _ _⟩
  have hb : (k != 1) = true := by rw [bne_iff_ne]; exact h9
  by_cases h10 : t = s
  · have hc : (t != s) = false := by rw [h10]; simp
    rw [chk_ok (by omega)]
    clear h9 h10
    go_enter Try.func42, Try.ntmps42
    go_wp2
    go_ret
    exact ⟨rfl, below_alloc _ _⟩
  · have hc : (t != s) = true := by rw [bne_iff_ne]; exact h10
    rw [chk_no (by omega)]
    clear h9 h10
    go_enter Try.func42, Try.ntmps42
    go_wp2
    go_ret
    exact ⟨rfl, below_alloc _ _⟩
/-- The widths of a header's fields. -/
def wsH : List Int := [8, 8, 32, 64, 64, 48]
theorem widths_any (w : World) : Calls Try.prog 88 #[] w fun e w' => ∃ p, e = .returned (.slice p 6 6) ∧ InI w' p 6 6 wsH ∧ Below w.heap.size w w' := by
  go_enter Try.func88, Try.ntmps88
  go_wp2
  go_ret
  exact ⟨_, rfl, in_litI w (cs := #[Value.int IntKind.i64 8, Value.int IntKind.i64 8, Value.int IntKind.i64 32, Value.int IntKind.i64 64, Value.int IntKind.i64 64, Value.int IntKind.i64 48]) rfl rfl (by decide), below_alloc _ _⟩
end Go.Proofs.Ytfgelncfmopibaa.Pg
