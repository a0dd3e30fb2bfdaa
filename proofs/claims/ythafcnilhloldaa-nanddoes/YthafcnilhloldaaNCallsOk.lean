/-
  How calls and a geometry that came in are read: as what the walks ask for.
-/
import Derived.Test.YthafcnilhloldaaNCalls
import Derived.Test.YthafcnilhloldaaNCallOk
import Derived.Deep.Slices
namespace Go.Proofs.Ythafcnilhloldaa
open Go.ChangeShapes Go.WideShapes Go.ChangeAt Go.RowKit
theorem cellTypesG : Try.prog.cellTypes Try.prog.depth 23 = some [3, 3] := by kernel_rfl
theorem cellsG : Try.prog.cellsOf 23 = 2 := by kernel_rfl
theorem cells3 : Try.prog.cellsOf 3 = 1 := by kernel_rfl
theorem cells4 : Try.prog.cellsOf 4 = 1 := by kernel_rfl
theorem cells5 : Try.prog.cellsOf 5 = 1 := by kernel_rfl
set_option maxRecDepth 100000 in
theorem okGeo {W : World} {r : Reach} {b : Nat} {v : Value} (h : Value.okWide Try.prog W r b 23 v) : ∃ gb gp, v = .agg #[.int .i64 gb, .int .i64 gp] ∧ IntKind.i64.has gb ∧ IntKind.i64.has gp := by
  simp only [Value.okWide, Try.underlying23] at h
  obtain ⟨cs, rfl, hsz, ts, hts, _, hc⟩ := h
  rw [cellTypesG] at hts
  cases hts
  rw [cellsG] at hsz
  obtain ⟨l⟩ := cs
  match l, hsz with
  | [a0, a1], _ =>
    obtain ⟨u0, e0, h0⟩ := hc 0 a0 rfl
    obtain ⟨u1, e1, h1⟩ := hc 1 a1 rfl
    cases e0; cases e1
    obtain ⟨gb, rfl, h2⟩ := cell_i Try.underlying3 h0
    obtain ⟨gp, rfl, h3⟩ := cell_i Try.underlying3 h1
    exact ⟨gb, gp, rfl, h2, h3⟩
set_option maxRecDepth 100000 in
theorem openCalls {H : Type} {enc : TypeId × Value → H} {W : World} {a : Option Addr} {len cap : Nat} {d : DataW H} {p : List MemPlace}
    (h : DataW.Trod enc Try.prog W 0 (fun _ => true) true 37 (.slice a len cap) d p) : ∃ os, CallsSrc W a len cap os := by
  obtain ⟨fuel, hf⟩ := h
  rcases Go.Deep.open_slice Try.underlying37 hf with ⟨hcs, _⟩ | ⟨x, l, c, m, n, D, Pl, hcs, _, hl, hm, hmm, _, hx⟩
  · simp [Value.cells] at hcs
    obtain ⟨rfl, rfl, rfl⟩ := hcs
    exact ⟨[], rfl, Nat.le_refl _, Nat.zero_le _, fun _ => rfl, fun x hx => by simp at hx, fun h => by omega⟩
  · simp [Value.cells] at hcs
    obtain ⟨rfl, rfl, rfl⟩ := hcs
    simp only [if_true] at hmm
    subst hmm
    have hsp : 0 < len → x.spot = none := by
      intro h0
      obtain ⟨cs', h1, _⟩ := hx 0 (by omega)
      rw [cellsC] at h1
      obtain ⟨_, hlen, hcell⟩ := World.cells?_some h1
      have c0 := hcell 0 (by omega)
      rw [Nat.zero_mul, Go.Deep.add_add, List.getElem?_eq_getElem (by omega)] at c0
      simpa [Addr.add] using World.cell?_spot c0
    have each : ∀ i, i < len → ∃ q : CallS, q.f < 256 ∧ x.spot = none ∧ x.block < W.heap.size ∧ W.cell? ⟨x.block, x.off + i * 5, none⟩ = some (.int .i64 q.od) ∧ W.cell? ⟨x.block, x.off + i * 5 + 1, none⟩ = some (.int .i64 q.ob) ∧ W.cell? ⟨x.block, x.off + i * 5 + 2, none⟩ = some (.int .i64 q.op) ∧ W.cell? ⟨x.block, x.off + i * 5 + 3, none⟩ = some (.bool q.nx) ∧ W.cell? ⟨x.block, x.off + i * 5 + 4, none⟩ = some (.int .u8 (q.f : Int)) := by
      intro i hi
      obtain ⟨cs', h1, h2⟩ := hx i (by omega)
      rw [cellsC] at h1
      obtain ⟨_, hlen, hcell⟩ := World.cells?_some h1
      obtain ⟨xs, k, hk, hxy, _, hxl, hfl⟩ := DataW.trod_struct Try.underlying39 h2
      match xs, hxl, cs', hlen with
      | [y0, y1, y2, y3, y4], _, [v0, v1, v2, v3, v4], _ =>
        have g0 := hfl 0 _ rfl
        have g1 := hfl 1 _ rfl
        have g2 := hfl 2 _ rfl
        have g3 := hfl 3 _ rfl
        have g4 := hfl 4 _ rfl
        simp [cells3, cells4, cells5] at g0 g1 g2 g3 g4
        obtain ⟨z0, e0, _, _⟩ := DataW.trod_int Try.underlying3 g0
        obtain ⟨z1, e1, _, _⟩ := DataW.trod_int Try.underlying3 g1
        obtain ⟨z2, e2, _, _⟩ := DataW.trod_int Try.underlying3 g2
        obtain ⟨z3, e3, _⟩ := DataW.trod_bool Try.underlying4 g3
        obtain ⟨z4, e4, _, hw⟩ := DataW.trod_int Try.underlying5 g4
        cases e0; cases e1; cases e2; cases e3; cases e4
        have hz4 := bounds_u8 hw
        have c0 := hcell 0 (by omega)
        have c1 := hcell 1 (by omega)
        have c2 := hcell 2 (by omega)
        have c3 := hcell 3 (by omega)
        have c4 := hcell 4 (by omega)
        rw [Go.Deep.add_add] at c0 c1 c2 c3 c4
        have hs := hsp (by omega)
        obtain ⟨xb, xo, xs'⟩ := x
        dsimp only at hs
        subst hs
        rw [addr_add] at c0 c1 c2 c3 c4
        have hlt := block_lt_of_cell (c0.trans (by rfl))
        refine ⟨⟨z0, z1, z2, z3, z4.toNat⟩, by show z4.toNat < 256; omega, rfl, hlt, ?_, ?_, ?_, ?_, ?_⟩
        · simpa using c0
        · simpa [Nat.add_assoc] using c1
        · simpa [Nat.add_assoc] using c2
        · simpa [Nat.add_assoc] using c3
        · rw [Nat.add_assoc, c4]
          show some (Value.int .u8 z4) = some (.int .u8 ((z4.toNat : Nat) : Int))
          rw [Int.toNat_of_nonneg hz4.1]
    obtain ⟨q, hq⟩ := @Go.Deep.choose_lt CallS ⟨⟨0, 0, 0, false, 0⟩⟩ _ _ each
    refine ⟨(List.range len).map q, by simp, hl, hm, fun h => (by cases h), fun y hy => ?_, fun h0 => ?_⟩
    · obtain ⟨i, hi, rfl⟩ := List.mem_map.1 hy
      exact (hq i (List.mem_range.1 hi)).1
    · have h00 := hq 0 h0
      obtain ⟨xb, xo, xs'⟩ := x
      have hs : xs' = none := h00.2.1
      subst hs
      refine ⟨xb, xo, rfl, h00.2.2.1, fun i y hy => ?_⟩
      rw [List.getElem?_map] at hy
      by_cases hi : i < len
      · rw [List.getElem?_range hi] at hy
        cases hy
        exact (hq i hi).2.2.2
      · rw [List.getElem?_eq_none (by simp; omega)] at hy
        cases hy
end Go.Proofs.Ythafcnilhloldaa
