/-
  How shapes and superblocks that came in are read: as what the walks ask for.
-/
import Derived.Test.YtbimcdaplnmjdaaLift
import Derived.Test.YtbimcdaplnmjdaaLyP
namespace Go.Proofs.Ytbimcdaplnmjdaa
open Go.ChangeShapes Go.WideShapes Go.ChangeAt Go.RowKit
theorem cellTypesS : Try.prog.cellTypes Try.prog.depth 24 = some [3, 3] := by kernel_rfl
theorem cellsS : Try.prog.cellsOf 24 = 2 := by kernel_rfl
set_option maxRecDepth 100000 in
theorem cell_i {W : World} {r : Reach} {b : Nat} {t : TypeId} {k : IntKind} {v : Value} (ht : Try.prog.underlying t = some (.int k)) (h : Cell.okWide Try.prog W r b t v) : ∃ n, v = .int k n ∧ k.has n := by
  simp only [Cell.okWide, ht, Cell.ok] at h
  cases v <;> simp_all
set_option maxRecDepth 100000 in
theorem okShape {W : World} {r : Reach} {b : Nat} {v : Value} (h : Value.okWide Try.prog W r b 24 v) : ∃ x y, v = .agg #[.int .i64 x, .int .i64 y] := by
  simp only [Value.okWide, Try.underlying24] at h
  obtain ⟨cs, rfl, hsz, ts, hts, _, hc⟩ := h
  rw [cellTypesS] at hts
  cases hts
  rw [cellsS] at hsz
  obtain ⟨l⟩ := cs
  match l, hsz with
  | [a0, a1], _ =>
    obtain ⟨u0, e0, h0⟩ := hc 0 a0 rfl
    obtain ⟨u1, e1, h1⟩ := hc 1 a1 rfl
    cases e0; cases e1
    obtain ⟨k, rfl, _⟩ := cell_i Try.underlying3 h0
    obtain ⟨g, rfl, _⟩ := cell_i Try.underlying3 h1
    exact ⟨k, g, rfl⟩
end Go.Proofs.Ytbimcdaplnmjdaa
