/-
  How extents that came in are read: as what the walks ask for.
-/
import Derived.Test.YtmboohadindlfaaRows
import Derived.Test.YtmboohadindlfaaXtBase
import Derived.ProofKit
import Derived.OpenShut
import Derived.ShutString
import Derived.ChangeOld
import Derived.SizedLaws
import Derived.Lib.SmallJoins
import Derived.Deep.Grids
namespace Go.Proofs.Ytmboohadindlfaa
open Go.ChangeShapes Go.WideShapes Go.ChangeAt Go.RowKit Go.Joins
theorem own : ownKnob Try.prog.godebug = none := by kernel_rfl
theorem laidOut : laidOutB Try.prog = true := by kernel_rfl
theorem cellsOf3 : Try.prog.cellsOf 3 = 1 := by kernel_rfl
theorem cellsOfX : Try.prog.cellsOf 31 = 3 := by kernel_rfl
theorem bytesOfX : Try.prog.bytesOf 31 = 24 := by kernel_rfl
set_option maxRecDepth 100000 in
theorem openExts' {H : Type} {enc : TypeId × Value → H} {W : World} {v : Value} {fuel : Nat} {y : DataW H × List MemPlace} (hf : DataW.trod enc Try.prog W 0 (fun _ => true) true fuel 22 [v] = some y) (hall : ∀ n ∈ y.1.weights Try.prog 22, n ≤ reachBytes) : ∃ a len cap l, v = .slice a len cap ∧ InE W a len cap l := by
  rcases Go.Deep.open_slice Try.underlying22 hf with ⟨hcs, _⟩ | ⟨x, len, cap, m, n, D, Pl, hcs, _, hl, hm, hmm, hxx, hx⟩
  · simp only [List.cons.injEq, and_true] at hcs
    subst hcs
    exact ⟨none, 0, 0, [], rfl, InE.empty W⟩
  · simp only [List.cons.injEq, and_true] at hcs
    subst hcs
    simp only [if_true] at hmm
    subst hmm
    subst hxx
    have hs := hall ((len + (m - len)) * 24) (by simp [DataW.weights, Try.underlying22, bytesOfX])
    simp only [reachBytes] at hs
    have hsp : 0 < len → x.spot = none := by
      intro h0
      obtain ⟨cs', h1, _⟩ := hx 0 (by omega)
      rw [cellsOfX] at h1
      obtain ⟨_, hlen, hcell⟩ := World.cells?_some h1
      have c0 := hcell 0 (by omega)
      rw [Nat.zero_mul, Go.Deep.add_add, List.getElem?_eq_getElem (by omega)] at c0
      simpa [Addr.add] using World.cell?_spot c0
    have each : ∀ i, i < len → ∃ g : Ext, x.spot = none ∧ x.block < W.heap.size ∧ W.cell? ⟨x.block, x.off + i * 3, none⟩ = some (.int .i64 g.lo) ∧ W.cell? ⟨x.block, x.off + i * 3 + 1, none⟩ = some (.int .i64 g.ln) ∧ W.cell? ⟨x.block, x.off + i * 3 + 2, none⟩ = some (.int .i64 g.ph) := by
      intro i hi
      obtain ⟨cs', h1, h2⟩ := hx i (by omega)
      rw [cellsOfX] at h1
      obtain ⟨_, hlen, hcell⟩ := World.cells?_some h1
      obtain ⟨xs, k, hk, hxy, _, hxl, hfl⟩ := DataW.trod_struct Try.underlying31 h2
      simp only [Prod.mk.injEq] at hxy
      match xs, hxl, cs', hlen with
      | [y0, y1, y2], _, [v0, v1, v2], _ =>
        have g0 := hfl 0 _ rfl
        have g1 := hfl 1 _ rfl
        have g2 := hfl 2 _ rfl
        simp [cellsOf3] at g0 g1 g2
        obtain ⟨z0, e0, _, y0⟩ := DataW.trod_int Try.underlying3 g0
        obtain ⟨z1, e1, _, y1⟩ := DataW.trod_int Try.underlying3 g1
        obtain ⟨z2, e2, _, y2⟩ := DataW.trod_int Try.underlying3 g2
        cases e0; cases e1; cases e2
        have c0 := hcell 0 (by omega)
        have c1 := hcell 1 (by omega)
        have c2 := hcell 2 (by omega)
        rw [Go.Deep.add_add] at c0 c1 c2
        have hs := hsp (by omega)
        obtain ⟨xb, xo, xs'⟩ := x
        dsimp only at hs
        subst hs
        rw [addr_add] at c0 c1 c2
        have hlt := block_lt_of_cell (c0.trans (by rfl))
        exact ⟨⟨z0, z1, z2⟩, rfl, hlt, by simpa using c0, by simpa [Nat.add_assoc] using c1, by simpa [Nat.add_assoc] using c2⟩
    obtain ⟨g, hg⟩ := @Go.Deep.choose_lt Ext ⟨⟨0, 0, 0⟩⟩ _ _ each
    refine ⟨some x, len, m, (List.range len).map g, rfl, ⟨by simp, hl, hm, by omega, fun h0 => ?_, fun h => by cases h⟩⟩
    have h00 := hg 0 h0
    obtain ⟨xb, xo, xs'⟩ := x
    have hs : xs' = none := h00.1
    subst hs
    refine ⟨xb, xo, rfl, h00.2.1, fun i hi => ?_⟩
    obtain ⟨_, _, w0, w1, w2⟩ := hg i hi
    have e' : eE ((List.range len).map g) i = g i := by simp [eE, hi]
    rw [e']
    exact ⟨w0, w1, w2⟩
theorem openExts {H : Type} {enc : TypeId × Value → H} {W : World} {a : Option Addr} {len cap : Nat} {d : DataW H} {p : List MemPlace} {ts : List TypeId} {ds : List (DataW H)} {j : Nat}
    (h : DataW.Trod enc Try.prog W 0 (fun _ => true) true 22 (.slice a len cap) d p) (hsz : (DataW.weightsEach Try.prog ts ds).all (· ≤ reachBytes) = true) (ht : ts[j]? = some 22) (hd : ds[j]? = some d) : ∃ l, InE W a len cap l := by
  obtain ⟨fuel, hf⟩ := h
  obtain ⟨a', l', c', l, hv, hin⟩ := openExts' hf (fun n hn => by simpa using List.all_eq_true.1 hsz _ (DataW.weights_mem_each ht hd n hn))
  cases hv
  exact ⟨l, hin⟩
theorem cellTypesX : Try.prog.cellTypes Try.prog.depth 31 = some [3, 3, 3] := by kernel_rfl
set_option maxRecDepth 100000 in
theorem cell_i {W : World} {r : Reach} {b : Nat} {t : TypeId} {k : IntKind} {v : Value} (ht : Try.prog.underlying t = some (.int k)) (h : Cell.okWide Try.prog W r b t v) : ∃ n, v = .int k n ∧ k.has n := by
  simp only [Cell.okWide, ht, Cell.ok] at h
  cases v <;> simp_all
set_option maxRecDepth 100000 in
theorem okExt {W : World} {r : Reach} {b : Nat} {v : Value} (h : Value.okWide Try.prog W r b 31 v) : ∃ e : Ext, v = e.val := by
  simp only [Value.okWide, Try.underlying31] at h
  obtain ⟨cs, rfl, hsz, ts, hts, _, hc⟩ := h
  rw [cellTypesX] at hts
  cases hts
  rw [cellsOfX] at hsz
  obtain ⟨l⟩ := cs
  match l, hsz with
  | [a0, a1, a2], _ =>
    obtain ⟨u0, e0, h0⟩ := hc 0 a0 rfl
    obtain ⟨u1, e1, h1⟩ := hc 1 a1 rfl
    obtain ⟨u2, e2, h2⟩ := hc 2 a2 rfl
    cases e0; cases e1; cases e2
    obtain ⟨k, rfl, _⟩ := cell_i Try.underlying3 h0
    obtain ⟨g, rfl, _⟩ := cell_i Try.underlying3 h1
    obtain ⟨m, rfl, _⟩ := cell_i Try.underlying3 h2
    exact ⟨⟨k, g, m⟩, rfl⟩
end Go.Proofs.Ytmboohadindlfaa
