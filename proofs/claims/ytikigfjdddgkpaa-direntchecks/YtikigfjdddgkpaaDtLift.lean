/-
  How entries that came in are read.
-/
import Derived.Test.YtikigfjdddgkpaaLift
import Derived.Test.YtikigfjdddgkpaaDtP
namespace Go.Proofs.Ytikigfjdddgkpaa
open Go.ChangeShapes Go.WideShapes Go.ChangeAt Go.RowKit
theorem cellTypesN : Try.prog.cellTypes Try.prog.depth 24 = some [9, 3, 3] := by kernel_rfl
theorem cellsN : Try.prog.cellsOf 24 = 3 := by kernel_rfl
theorem cell_i {W : World} {r : Reach} {b : Nat} {t : TypeId} {k : IntKind} {v : Value} (ht : Try.prog.underlying t = some (.int k)) (h : Cell.okWide Try.prog W r b t v) : ∃ n, v = .int k n ∧ k.has n := by
  simp only [Cell.okWide, ht, Cell.ok] at h
  cases v <;> simp_all
theorem cell_s {W : World} {r : Reach} {b : Nat} {t : TypeId} {v : Value} (ht : Try.prog.underlying t = some .string) (h : Cell.okWide Try.prog W r b t v) : ∃ l : List UInt8, v = .string ⟨l.toArray⟩ := by
  simp only [Cell.okWide, ht, Cell.ok] at h
  cases v <;> simp_all
  rename_i s
  obtain ⟨⟨l⟩⟩ := s
  exact ⟨l, rfl⟩
set_option maxRecDepth 100000 in
theorem okEnt {W : World} {r : Reach} {b : Nat} {v : Value} (h : Value.okWide Try.prog W r b 24 v) : ∃ (x : List UInt8) (y z : Int), v = .agg #[.string ⟨x.toArray⟩, .int .i64 y, .int .i64 z] := by
  simp only [Value.okWide, Try.underlying24] at h
  obtain ⟨cs, rfl, hsz, ts, hts, _, hc⟩ := h
  rw [cellTypesN] at hts
  cases hts
  rw [cellsN] at hsz
  obtain ⟨l⟩ := cs
  match l, hsz with
  | [a0, a1, a2], _ =>
    obtain ⟨u0, e0, h0⟩ := hc 0 a0 rfl
    obtain ⟨u1, e1, h1⟩ := hc 1 a1 rfl
    obtain ⟨u2, e2, h2⟩ := hc 2 a2 rfl
    cases e0; cases e1; cases e2
    obtain ⟨x, rfl⟩ := cell_s Try.underlying9 h0
    obtain ⟨k, rfl, _⟩ := cell_i Try.underlying3 h1
    obtain ⟨g, rfl, _⟩ := cell_i Try.underlying3 h2
    exact ⟨x, k, g, rfl⟩
end Go.Proofs.Ytikigfjdddgkpaa
