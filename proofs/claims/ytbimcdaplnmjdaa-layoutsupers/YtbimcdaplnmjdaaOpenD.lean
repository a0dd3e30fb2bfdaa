/-
  What seal.Open answers, plain.
-/
import Derived.Test.YtbimcdaplnmjdaaState
namespace Go.Proofs.Ytbimcdaplnmjdaa
open Go.RowKit
/-- What Open answers beside State's error. -/
def openL (xs : List Nat) : List Nat := if stateL xs = 0 then xs.take (xs.length - 4) else []
theorem state_okL {ys : List Nat} (h : stateL ys = 0) : 4 ≤ ys.length ∧ ys.length ≤ 1048580 ∧ ys.drop (ys.length - 4) = cnt (ys.take (ys.length - 4)) := by
  unfold stateL at h
  split at h
  · simp at h
  · split at h
    · assumption
    · simp at h
end Go.Proofs.Ytbimcdaplnmjdaa
