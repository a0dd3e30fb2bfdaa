/-
  What Tear and Erased answer.
-/
import Derived.Test.YtfgelncfmopibaaXPgSplit
namespace Go.Proofs.Ytfgelncfmopibaa.Pg
open Go.RowKit
theorem Blk.page {w : World} {g : Nat} {t : TypeId} {P : List Nat} (h : Blk w g t (vals P)) (hl : P.length = 288) : w.rangeAt g 0 (vals P) :=
  h.range 0 288 _ (by rw [List.drop_zero, List.take_of_length_le (by rw [vals_length, hl]; exact Nat.le_refl _)])
theorem page_fits {P Q : List Nat} (hP : P.length = 288) (hQ : Q.length = 288) : 0 + (vals P).length ≤ (vals Q).length := by rw [vals_length, vals_length, hP, hQ]; exact Nat.le_refl _
theorem page_whole {P Q : List Nat} (hP : P.length = 288) (hQ : Q.length = 288) : (vals Q).take 0 ++ vals P ++ (vals Q).drop (0 + (vals P).length) = vals P := whole_row (by rw [vals_length, vals_length, hP, hQ])
end Go.Proofs.Ytfgelncfmopibaa.Pg
