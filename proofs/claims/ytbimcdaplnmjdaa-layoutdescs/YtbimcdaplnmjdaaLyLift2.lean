/-
  How superblocks that came in are read: as what the walks ask for.
-/
import Derived.Test.YtbimcdaplnmjdaaLyLift
namespace Go.Proofs.Ytbimcdaplnmjdaa
open Go.ChangeShapes Go.WideShapes Go.ChangeAt Go.RowKit
theorem cellTypesU : Try.prog.cellTypes Try.prog.depth 43 = some [3, 3, 3, 4, 2] := by kernel_rfl
theorem cellsU : Try.prog.cellsOf 43 = 5 := by kernel_rfl
set_option maxRecDepth 100000 in
theorem cell_b {W : World} {r : Reach} {b : Nat} {t : TypeId} {v : Value} (ht : Try.prog.underlying t = some .bool) (h : Cell.okWide Try.prog W r b t v) : ∃ n, v = .bool n := by
  simp only [Cell.okWide, ht, Cell.ok] at h
  cases v <;> simp_all
set_option maxRecDepth 100000 in
theorem okSuper {W : World} {r : Reach} {b : Nat} {v : Value} (h : Value.okWide Try.prog W r b 43 v) : ∃ x y z u m, v = .agg #[.int .i64 x, .int .i64 y, .int .i64 z, .bool u, .int .i64 m] := by
  simp only [Value.okWide, Try.underlying43] at h
  obtain ⟨cs, rfl, hsz, ts, hts, _, hc⟩ := h
  rw [cellTypesU] at hts
  cases hts
  rw [cellsU] at hsz
  obtain ⟨l⟩ := cs
  match l, hsz with
  | [a0, a1, a2, a3, a4], _ =>
    obtain ⟨u0, e0, h0⟩ := hc 0 a0 rfl
    obtain ⟨u1, e1, h1⟩ := hc 1 a1 rfl
    obtain ⟨u2, e2, h2⟩ := hc 2 a2 rfl
    obtain ⟨u3, e3, h3⟩ := hc 3 a3 rfl
    obtain ⟨u4, e4, h4⟩ := hc 4 a4 rfl
    cases e0; cases e1; cases e2; cases e3; cases e4
    obtain ⟨k, rfl, _⟩ := cell_i Try.underlying3 h0
    obtain ⟨g, rfl, _⟩ := cell_i Try.underlying3 h1
    obtain ⟨s, rfl, _⟩ := cell_i Try.underlying3 h2
    obtain ⟨t, rfl⟩ := cell_b Try.underlying4 h3
    obtain ⟨q, rfl, _⟩ := cell_i Try.underlying2 h4
    exact ⟨k, g, s, t, q, rfl⟩
end Go.Proofs.Ytbimcdaplnmjdaa
