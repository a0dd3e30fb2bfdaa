/-
  MapGrows, the walk: what two states know together only grows.
-/
import Derived.Test.YtpikaagdiafieaaMjCat
import Derived.Test.YtpikaagdiafieaaMjRef1
namespace Go.Proofs.Ytpikaagdiafieaa
open Go.RowKit
theorem joinR_bad {a b : MS} (h : ¬ joinE a b = 0) : joinR a b = (MS.zero, joinE a b) := by unfold joinR; rw [if_neg h]
theorem applyR_zero {s : MS} {l : List MR} (h : ¬ (applyR s l).2 = 0) : applyR s l = (MS.zero, (applyR s l).2) := by
  unfold applyR at *
  split
  · rename_i h1
    rw [if_pos h1] at h
    split
    · rename_i h2; rw [if_pos h2] at h; exact absurd rfl h
    · rfl
  · rfl
end Go.Proofs.Ytpikaagdiafieaa
