/-
  How a call that came in is read: as what the walks ask for.
-/
import Derived.Test.YthafcnilhloldaaRows
import Derived.Test.YthafcnilhloldaaNTells
import Derived.ProofKit
import Derived.OpenShut
import Derived.ShutString
import Derived.ChangeOld
import Derived.SizedLaws
namespace Go.Proofs.Ythafcnilhloldaa
open Go.ChangeShapes Go.WideShapes Go.ChangeAt Go.RowKit
theorem own : ownKnob Try.prog.godebug = none := by kernel_rfl
theorem laidOut : laidOutB Try.prog = true := by kernel_rfl
theorem cellTypesC : Try.prog.cellTypes Try.prog.depth 39 = some [3, 3, 3, 4, 5] := by kernel_rfl
theorem cellsC : Try.prog.cellsOf 39 = 5 := by kernel_rfl
set_option maxRecDepth 100000 in
theorem cell_i {W : World} {r : Reach} {b : Nat} {t : TypeId} {k : IntKind} {v : Value} (ht : Try.prog.underlying t = some (.int k)) (h : Cell.okWide Try.prog W r b t v) : ∃ n, v = .int k n ∧ k.has n := by
  simp only [Cell.okWide, ht, Cell.ok] at h
  cases v <;> simp_all
set_option maxRecDepth 100000 in
theorem cell_b {W : World} {r : Reach} {b : Nat} {t : TypeId} {v : Value} (ht : Try.prog.underlying t = some .bool) (h : Cell.okWide Try.prog W r b t v) : ∃ n, v = .bool n := by
  simp only [Cell.okWide, ht, Cell.ok] at h
  cases v <;> simp_all
set_option maxRecDepth 100000 in
theorem okCall {W : World} {r : Reach} {b : Nat} {v : Value} (h : Value.okWide Try.prog W r b 39 v) : ∃ od ob op on, ∃ f : Nat, f < 256 ∧ v = .agg #[.int .i64 od, .int .i64 ob, .int .i64 op, .bool on, .int .u8 (f : Int)] := by
  simp only [Value.okWide, Try.underlying39] at h
  obtain ⟨cs, rfl, hsz, ts, hts, _, hc⟩ := h
  rw [cellTypesC] at hts
  cases hts
  rw [cellsC] at hsz
  obtain ⟨l⟩ := cs
  match l, hsz with
  | [a0, a1, a2, a3, a4], _ =>
    obtain ⟨u0, e0, h0⟩ := hc 0 a0 rfl
    obtain ⟨u1, e1, h1⟩ := hc 1 a1 rfl
    obtain ⟨u2, e2, h2⟩ := hc 2 a2 rfl
    obtain ⟨u3, e3, h3⟩ := hc 3 a3 rfl
    obtain ⟨u4, e4, h4⟩ := hc 4 a4 rfl
    cases e0; cases e1; cases e2; cases e3; cases e4
    obtain ⟨od, rfl, _⟩ := cell_i Try.underlying3 h0
    obtain ⟨ob, rfl, _⟩ := cell_i Try.underlying3 h1
    obtain ⟨op, rfl, _⟩ := cell_i Try.underlying3 h2
    obtain ⟨on, rfl⟩ := cell_b Try.underlying4 h3
    obtain ⟨f, rfl, hf⟩ := cell_i Try.underlying5 h4
    simp only [IntKind.has, IntKind.min, IntKind.max] at hf
    have hf0 : 0 ≤ f ∧ f < 256 := by
      first
        | omega
        | (simp [IntKind.signed, IntKind.bits] at hf; omega)
    refine ⟨od, ob, op, on, f.toNat, by omega, ?_⟩
    rw [Int.toNat_of_nonneg hf0.1]
end Go.Proofs.Ythafcnilhloldaa
