/-
  How cases that came in are read: as what the walks ask for.
-/
import Derived.Test.YtfgelncfmopibaaRows
import Derived.Test.YtfgelncfmopibaaSnBase
import Derived.ProofKit
import Derived.OpenShut
import Derived.ShutString
import Derived.ChangeOld
import Derived.SizedLaws
import Derived.Lib.SmallJoins
import Derived.Deep.Grids
namespace Go.Proofs.Ytfgelncfmopibaa
open Go.ChangeShapes Go.WideShapes Go.ChangeAt Go.RowKit Go.Joins
theorem own : ownKnob Try.prog.godebug = none := by kernel_rfl
theorem laidOut : laidOutB Try.prog = true := by kernel_rfl
theorem cellsOf3 : Try.prog.cellsOf 3 = 1 := by kernel_rfl
theorem cellsOf2 : Try.prog.cellsOf 2 = 1 := by kernel_rfl
theorem cellsOf5 : Try.prog.cellsOf 5 = 1 := by kernel_rfl
theorem cellsOfF : Try.prog.cellsOf 33 = 6 := by kernel_rfl
theorem bytesOfF : Try.prog.bytesOf 33 = 48 := by kernel_rfl
theorem cellsOfZ : Try.prog.cellsOf 29 = 2 := by kernel_rfl
theorem bytesOfZ : Try.prog.bytesOf 29 = 16 := by kernel_rfl
theorem cellsOfHd : Try.prog.cellsOf 31 = 4 := by kernel_rfl
theorem cellsOfC : Try.prog.cellsOf 39 = 5 := by kernel_rfl
theorem cellsOfFs : Try.prog.cellsOf 27 = 1 := by kernel_rfl
theorem cellsOfZs : Try.prog.cellsOf 37 = 1 := by kernel_rfl
set_option linter.unusedSimpArgs false in
set_option maxRecDepth 100000 in
theorem openF' {H : Type} {enc : TypeId × Value → H} {W : World} {v : Value} {fuel : Nat} {y : DataW H × List MemPlace} (hf : DataW.trod enc Try.prog W 0 (fun _ => true) true fuel 27 [v] = some y) (hall : ∀ n ∈ y.1.weights Try.prog 27, n ≤ reachBytes) : ∃ a len cap l, v = .slice a len cap ∧ InF W a len cap l := by
  rcases Go.Deep.open_slice Try.underlying27 hf with ⟨hcs, _⟩ | ⟨x, len, cap, m, n, D, Pl', hcs, _, hl, hm, hmm, hxx, hx⟩
  · simp only [List.cons.injEq, and_true] at hcs
    subst hcs
    exact ⟨none, 0, 0, [], rfl, InF.empty W⟩
  · simp only [List.cons.injEq, and_true] at hcs
    subst hcs
    simp only [if_true] at hmm
    subst hmm
    subst hxx
    have hs := hall ((len + (m - len)) * 48) (by simp [DataW.weights, Try.underlying27, bytesOfF])
    simp only [reachBytes] at hs
    have hsp : 0 < len → x.spot = none := by
      intro h0
      obtain ⟨cs', h1, _⟩ := hx 0 (by omega)
      rw [cellsOfF] at h1
      obtain ⟨_, hlen, hcell⟩ := World.cells?_some h1
      have c0 := hcell 0 (by omega)
      rw [Nat.zero_mul, Go.Deep.add_add, List.getElem?_eq_getElem (by omega)] at c0
      simpa [Addr.add] using World.cell?_spot c0
    have each : ∀ i, i < len → ∃ g : Fd, x.spot = none ∧ x.block < W.heap.size ∧ W.cell? ⟨x.block, x.off + i * 6, none⟩ = some (.int .i64 g.ph) ∧ W.cell? ⟨x.block, x.off + i * 6 + 1, none⟩ = some (.int .i64 g.pg) ∧ W.cell? ⟨x.block, x.off + i * 6 + 2, none⟩ = some (.int .i64 g.k) ∧ W.cell? ⟨x.block, x.off + i * 6 + 3, none⟩ = some (.int .i64 g.p) ∧ W.cell? ⟨x.block, x.off + i * 6 + 4, none⟩ = some (.int .i64 g.s) ∧ W.cell? ⟨x.block, x.off + i * 6 + 5, none⟩ = some (.int .i64 g.t) := by
      intro i hi
      obtain ⟨cs', h1, h2⟩ := hx i (by omega)
      rw [cellsOfF] at h1
      obtain ⟨_, hlen, hcell⟩ := World.cells?_some h1
      obtain ⟨xs, k, hk, hxy, _, hxl, hfl⟩ := DataW.trod_struct Try.underlying33 h2
      simp only [Prod.mk.injEq] at hxy
      match xs, hxl, cs', hlen with
      | [y0, y1], _, [v0, v1, v2, v3, v4, v5], _ =>
        have h5 := hfl 0 _ rfl
        have h6 := hfl 1 _ rfl
        simp [cellsOfZ, cellsOfHd] at h5 h6
        obtain ⟨us0, k0, _, _, _, hul0, hfu0⟩ := DataW.trod_struct Try.underlying29 h5
        obtain ⟨u00, u01, rfl⟩ : ∃ u00 u01, us0 = [u00, u01] := by
          match us0, hul0 with
          | [a0, a1], _ => exact ⟨a0, a1, rfl⟩
        have g0 := hfu0 0 _ rfl
        have g1 := hfu0 1 _ rfl
        simp [cellsOf2, cellsOf3] at g0 g1
        obtain ⟨z0, e0, _, _⟩ := DataW.trod_int Try.underlying3 g0
        obtain ⟨z1, e1, _, _⟩ := DataW.trod_int Try.underlying3 g1
        obtain ⟨us1, k1, _, _, _, hul1, hfu1⟩ := DataW.trod_struct Try.underlying31 h6
        obtain ⟨u10, u11, u12, u13, rfl⟩ : ∃ u10 u11 u12 u13, us1 = [u10, u11, u12, u13] := by
          match us1, hul1 with
          | [a0, a1, a2, a3], _ => exact ⟨a0, a1, a2, a3, rfl⟩
        have g2 := hfu1 0 _ rfl
        have g3 := hfu1 1 _ rfl
        have g4 := hfu1 2 _ rfl
        have g5 := hfu1 3 _ rfl
        simp [cellsOf2, cellsOf3] at g2 g3 g4 g5
        obtain ⟨z2, e2, _, _⟩ := DataW.trod_int Try.underlying3 g2
        obtain ⟨z3, e3, _, _⟩ := DataW.trod_int Try.underlying3 g3
        obtain ⟨z4, e4, _, _⟩ := DataW.trod_int Try.underlying2 g4
        obtain ⟨z5, e5, _, _⟩ := DataW.trod_int Try.underlying2 g5
        cases e0; cases e1; cases e2; cases e3; cases e4; cases e5
        have c0 := hcell 0 (by omega)
        have c1 := hcell 1 (by omega)
        have c2 := hcell 2 (by omega)
        have c3 := hcell 3 (by omega)
        have c4 := hcell 4 (by omega)
        have c5 := hcell 5 (by omega)
        rw [Go.Deep.add_add] at c0 c1 c2 c3 c4 c5
        have hs := hsp (by omega)
        obtain ⟨xb, xo, xs'⟩ := x
        dsimp only at hs
        subst hs
        rw [addr_add] at c0 c1 c2 c3 c4 c5
        have hlt := block_lt_of_cell (c0.trans (by rfl))
        exact ⟨⟨z0, z1, z2, z3, z4, z5⟩, rfl, hlt, by simpa using c0, by simpa [Nat.add_assoc] using c1, by simpa [Nat.add_assoc] using c2, by simpa [Nat.add_assoc] using c3, by simpa [Nat.add_assoc] using c4, by simpa [Nat.add_assoc] using c5⟩
    obtain ⟨g, hg⟩ := @Go.Deep.choose_lt Fd ⟨⟨0, 0, 0, 0, 0, 0⟩⟩ _ _ each
    refine ⟨some x, len, m, (List.range len).map g, rfl, ⟨by simp, hl, hm, by omega, fun h0 => ?_, fun h => by cases h⟩⟩
    have h00 := hg 0 h0
    obtain ⟨xb, xo, xs'⟩ := x
    have hs : xs' = none := h00.1
    subst hs
    refine ⟨xb, xo, rfl, h00.2.1, fun i hi => ?_⟩
    obtain ⟨_, _, hrest⟩ := hg i hi
    have e' : eF ((List.range len).map g) i = g i := by simp [eF, hi]
    rw [e']
    exact hrest
set_option linter.unusedSimpArgs false in
set_option maxRecDepth 100000 in
theorem openZ' {H : Type} {enc : TypeId × Value → H} {W : World} {v : Value} {fuel : Nat} {y : DataW H × List MemPlace} (hf : DataW.trod enc Try.prog W 0 (fun _ => true) true fuel 37 [v] = some y) (hall : ∀ n ∈ y.1.weights Try.prog 37, n ≤ reachBytes) : ∃ a len cap l, v = .slice a len cap ∧ InZ W a len cap l := by
  rcases Go.Deep.open_slice Try.underlying37 hf with ⟨hcs, _⟩ | ⟨x, len, cap, m, n, D, Pl', hcs, _, hl, hm, hmm, hxx, hx⟩
  · simp only [List.cons.injEq, and_true] at hcs
    subst hcs
    exact ⟨none, 0, 0, [], rfl, InZ.empty W⟩
  · simp only [List.cons.injEq, and_true] at hcs
    subst hcs
    simp only [if_true] at hmm
    subst hmm
    subst hxx
    have hs := hall ((len + (m - len)) * 16) (by simp [DataW.weights, Try.underlying37, bytesOfZ])
    simp only [reachBytes] at hs
    have hsp : 0 < len → x.spot = none := by
      intro h0
      obtain ⟨cs', h1, _⟩ := hx 0 (by omega)
      rw [cellsOfZ] at h1
      obtain ⟨_, hlen, hcell⟩ := World.cells?_some h1
      have c0 := hcell 0 (by omega)
      rw [Nat.zero_mul, Go.Deep.add_add, List.getElem?_eq_getElem (by omega)] at c0
      simpa [Addr.add] using World.cell?_spot c0
    have each : ∀ i, i < len → ∃ g : Pl, x.spot = none ∧ x.block < W.heap.size ∧ W.cell? ⟨x.block, x.off + i * 2, none⟩ = some (.int .i64 g.ph) ∧ W.cell? ⟨x.block, x.off + i * 2 + 1, none⟩ = some (.int .i64 g.pg) := by
      intro i hi
      obtain ⟨cs', h1, h2⟩ := hx i (by omega)
      rw [cellsOfZ] at h1
      obtain ⟨_, hlen, hcell⟩ := World.cells?_some h1
      obtain ⟨xs, k, hk, hxy, _, hxl, hfl⟩ := DataW.trod_struct Try.underlying29 h2
      simp only [Prod.mk.injEq] at hxy
      match xs, hxl, cs', hlen with
      | [y0, y1], _, [v0, v1], _ =>
        have g0 := hfl 0 _ rfl
        have g1 := hfl 1 _ rfl
        simp [cellsOf2, cellsOf3] at g0 g1
        obtain ⟨z0, e0, _, _⟩ := DataW.trod_int Try.underlying3 g0
        obtain ⟨z1, e1, _, _⟩ := DataW.trod_int Try.underlying3 g1
        cases e0; cases e1
        have c0 := hcell 0 (by omega)
        have c1 := hcell 1 (by omega)
        rw [Go.Deep.add_add] at c0 c1
        have hs := hsp (by omega)
        obtain ⟨xb, xo, xs'⟩ := x
        dsimp only at hs
        subst hs
        rw [addr_add] at c0 c1
        have hlt := block_lt_of_cell (c0.trans (by rfl))
        exact ⟨⟨z0, z1⟩, rfl, hlt, by simpa using c0, by simpa [Nat.add_assoc] using c1⟩
    obtain ⟨g, hg⟩ := @Go.Deep.choose_lt Pl ⟨⟨0, 0⟩⟩ _ _ each
    refine ⟨some x, len, m, (List.range len).map g, rfl, ⟨by simp, hl, hm, by omega, fun h0 => ?_, fun h => by cases h⟩⟩
    have h00 := hg 0 h0
    obtain ⟨xb, xo, xs'⟩ := x
    have hs : xs' = none := h00.1
    subst hs
    refine ⟨xb, xo, rfl, h00.2.1, fun i hi => ?_⟩
    obtain ⟨_, _, hrest⟩ := hg i hi
    have e' : eZ ((List.range len).map g) i = g i := by simp [eZ, hi]
    rw [e']
    exact hrest
set_option maxRecDepth 100000 in
/-- How a case came in. -/
theorem openCase {H : Type} {enc : TypeId × Value → H} {W : World} {r : Reach} {b0 : Nat} {v : Value} {d : DataW H} {p : List MemPlace} {ts : List TypeId} {ds : List (DataW H)} {j : Nat} (hv : Value.okWide Try.prog W r b0 39 v)
    (h : DataW.Trod enc Try.prog W 0 (fun _ => true) true 39 v d p) (hsz : (DataW.weightsEach Try.prog ts ds).all (· ≤ reachBytes) = true) (ht : ts[j]? = some 39) (hd : ds[j]? = some d) :
    ∃ (P Lg K : Int) (pa : Option Addr) (n c : Nat) (xs : List Fd) (qa : Option Addr) (m e : Nat) (zs : List Pl), v = .agg #[.int .i64 P, .int .i64 Lg, .int .i64 K, .slice pa n c, .slice qa m e] ∧ InF W pa n c xs ∧ InZ W qa m e zs := by
  obtain ⟨cs, rfl, hcs⟩ := okWide_struct Try.underlying39 hv
  rw [cellsOfC] at hcs
  obtain ⟨c0, c1, c2, c3, c4, rfl⟩ : ∃ c0 c1 c2 c3 c4, cs = #[c0, c1, c2, c3, c4] := by
    obtain ⟨l⟩ := cs
    match l, hcs with
    | [c0, c1, c2, c3, c4], _ => exact ⟨c0, c1, c2, c3, c4, rfl⟩
  obtain ⟨fuel, hf⟩ := h
  obtain ⟨xs, k, hk, hxy, _, hxl, hfl⟩ := DataW.trod_struct Try.underlying39 hf
  simp only [Prod.mk.injEq] at hxy
  match xs, hxl with
  | [y0, y1, y2, y3, y4], _ =>
    have hall : ∀ n ∈ d.weights Try.prog 39, n ≤ reachBytes := fun n hn => by simpa using List.all_eq_true.1 hsz _ (DataW.weights_mem_each ht hd n hn)
    obtain ⟨rfl, _⟩ := hxy
    have g0 := hfl 0 _ rfl
    have g1 := hfl 1 _ rfl
    have g2 := hfl 2 _ rfl
    have g3 := hfl 3 _ rfl
    have g4 := hfl 4 _ rfl
    simp [Value.cells, cellsOf3, cellsOfFs, cellsOfZs] at g0 g1 g2 g3 g4
    obtain ⟨z0, e0, _, _⟩ := DataW.trod_int Try.underlying3 g0
    obtain ⟨z1, e1, _, _⟩ := DataW.trod_int Try.underlying3 g1
    obtain ⟨z2, e2, _, _⟩ := DataW.trod_int Try.underlying3 g2
    cases e0; cases e1; cases e2
    have w3 : ∀ n ∈ y3.1.weights Try.prog 27, n ≤ reachBytes := fun n hn => hall n (by
      simp only [DataW.weights, Try.underlying39, List.map_cons, List.map_nil, DataW.weightsEach, List.mem_append]
      exact .inr (.inr (.inr (.inl hn))))
    have w4 : ∀ n ∈ y4.1.weights Try.prog 37, n ≤ reachBytes := fun n hn => hall n (by
      simp only [DataW.weights, Try.underlying39, List.map_cons, List.map_nil, DataW.weightsEach, List.mem_append]
      exact .inr (.inr (.inr (.inr (.inl hn)))))
    obtain ⟨pa, n, c, l, rfl, hF⟩ := openF' g3 w3
    obtain ⟨qa, m, e, l2, rfl, hZ⟩ := openZ' g4 w4
    exact ⟨z0, z1, z2, pa, n, c, l, qa, m, e, l2, rfl, hF, hZ⟩
end Go.Proofs.Ytfgelncfmopibaa
