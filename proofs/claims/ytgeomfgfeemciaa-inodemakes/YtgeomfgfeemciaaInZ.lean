/-
  Blocks of inode and of the reference: the same number.
-/
import Derived.Test.YtgeomfgfeemciaaInP
namespace Go.Proofs.Ytgeomfgfeemciaa
open Go.RowKit
set_option linter.unusedSimpArgs false in
set_option linter.unusedVariables false in
set_option maxRecDepth 100000 in
set_option maxHeartbeats 4000000 in
theorem blocks_both (sz : Int) : ∃ v : Int, (∀ w, Calls Try.prog 19 #[.int .i64 sz] w fun e w' => e = .returned (.int .i64 v) ∧ w' = w) ∧ (∀ w, Calls Try.prog 20 #[.int .i64 sz] w fun e w' => e = .returned (.int .i64 v) ∧ w' = w) := by
  by_cases h : sz ≤ 0
  · refine ⟨0, fun w => ?_, fun w => ?_⟩
    · go_enter Try.func19, Try.ntmps19
      go_wp2
      go_ret
      exact ⟨rfl, rfl⟩
    · go_enter Try.func20, Try.ntmps20
      go_wp2
      go_ret
      exact ⟨rfl, rfl⟩
  · refine ⟨wrap64 (wrap64 ((wrap64 (sz - 1)).tdiv 256) + 1), fun w => ?_, fun w => ?_⟩
    · go_enter Try.func19, Try.ntmps19
      go_wp2
      go_ret
      exact ⟨rfl, rfl⟩
    · go_enter Try.func20, Try.ntmps20
      go_wp2
      go_ret
      exact ⟨rfl, rfl⟩
end Go.Proofs.Ytgeomfgfeemciaa
