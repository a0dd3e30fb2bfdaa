/-
  How a Four that came in is read: as what the walks ask for.
-/
import Derived.Test.YthibaefoioeghaaRows
import Derived.Test.YthibaefoioeghaaPlTab
import Derived.ProofKit
import Derived.OpenShut
import Derived.ShutString
import Derived.ChangeOld
import Derived.SizedLaws
import Derived.Lib.SmallJoins
import Derived.Deep.Grids
namespace Go.Proofs.Ythibaefoioeghaa
open Go.ChangeShapes Go.WideShapes Go.ChangeAt Go.RowKit Go.Joins
set_option linter.constructorNameAsVariable false
theorem own : ownKnob Try.prog.godebug = none := by kernel_rfl
theorem laidOut : laidOutB Try.prog = true := by kernel_rfl
theorem cellsOf3 : Try.prog.cellsOf 3 = 1 := by kernel_rfl
theorem bytesOf3 : Try.prog.bytesOf 3 = 8 := by kernel_rfl
theorem cellsOf4 : Try.prog.cellsOf 4 = 1 := by kernel_rfl
theorem bytesOf4 : Try.prog.bytesOf 4 = 1 := by kernel_rfl
theorem cellsOfT : Try.prog.cellsOf 28 = 9 := by kernel_rfl
theorem cellsOfF : Try.prog.cellsOf 47 = 13 := by kernel_rfl
theorem cellsOfS : Try.prog.cellsOf 30 = 2 := by kernel_rfl
theorem cellsOfSq : Try.prog.cellsOf 25 = 3 := by kernel_rfl
theorem cellsOfIs : Try.prog.cellsOf 22 = 1 := by kernel_rfl
theorem cellsOfBs : Try.prog.cellsOf 23 = 1 := by kernel_rfl
theorem cellsOfLs : Try.prog.cellsOf 26 = 1 := by kernel_rfl
theorem cellsOfLg : Try.prog.cellsOf 61 = 2 := by kernel_rfl
theorem bytesOfLg : Try.prog.bytesOf 61 = 32 := by kernel_rfl
/-- A slice of numbers of kind i64, by its reading and its weights. -/
theorem openI {H : Type} {enc : TypeId × Value → H} {W : World} {t e : TypeId} {fuel : Nat} {v : Value} {y : DataW H × List MemPlace} (ht : Try.prog.underlying t = some (.slice e)) (he : Try.prog.underlying e = some (.int .i64)) (hc1 : Try.prog.cellsOf e = 1) (hb : Try.prog.bytesOf e = 8)
    (hf : DataW.trod enc Try.prog W 0 (fun _ => true) true fuel t [v] = some y) (hs : ∀ n ∈ y.1.weights Try.prog t, n ≤ reachBytes) : ∃ p n c xs, v = .slice p n c ∧ InI W p n c xs := by
  rcases open_ints ht he hc1 hf with ⟨hcs, _⟩ | ⟨x, l, c, zs, hcs, _, hl, hm, hz, hx, hcell, hwz⟩
  · simp only [List.cons.injEq, and_true] at hcs
    subst hcs
    exact ⟨none, 0, 0, [], rfl, InI.empty W⟩
  · simp only [List.cons.injEq, and_true] at hcs
    subst hcs
    have hzl : zs.length = c := by simpa using hz
    subst hx
    have hw := hs (((zs.take l).length + (zs.drop l).length) * 8) (by simp [DataW.weights, ht, hb, lits])
    simp only [List.length_take, List.length_drop, reachBytes, hzl] at hw
    refine ⟨some x, l, c, zs.take l, rfl, by rw [List.length_take]; omega, hl, hm, by omega, fun h0 => ?_, fun h => by cases h⟩
    have hc0 := hcell 0 (by omega)
    obtain ⟨b, o, s⟩ := x
    have hsp : s = none := by simpa [Addr.add] using World.cell?_spot hc0
    subst hsp
    refine ⟨b, o, rfl, block_lt_of_cell hc0, fun i hi => ?_⟩
    have hci := hcell i (by omega)
    rw [addr_add] at hci
    rw [hci]
    have e' : eI (zs.take l) i = zs.getD i 0 := by simp [eI, List.getElem?_take_of_lt hi]
    rw [e']
theorem openBo {H : Type} {enc : TypeId × Value → H} {W : World} {t e : TypeId} {fuel : Nat} {v : Value} {y : DataW H × List MemPlace} (ht : Try.prog.underlying t = some (.slice e)) (he : Try.prog.underlying e = some .bool) (hc1 : Try.prog.cellsOf e = 1) (hb : Try.prog.bytesOf e = 1)
    (hf : DataW.trod enc Try.prog W 0 (fun _ => true) true fuel t [v] = some y) (hs : ∀ n ∈ y.1.weights Try.prog t, n ≤ reachBytes) : ∃ p n c xs, v = .slice p n c ∧ InB W p n c xs := by
  rcases Go.Deep.open_bools ht he hc1 hf with ⟨hcs, _⟩ | ⟨x, l, c, Bf, hcs, _, hl, hm, hx, hcell⟩
  · simp only [List.cons.injEq, and_true] at hcs
    subst hcs
    exact ⟨none, 0, 0, [], rfl, InB.empty W⟩
  · simp only [List.cons.injEq, and_true] at hcs
    subst hcs
    subst hx
    have hw := hs ((l + (c - l)) * 1) (by simp [DataW.weights, Go.Deep.boolRow, ht, hb])
    simp only [reachBytes] at hw
    refine ⟨some x, l, c, (List.range l).map Bf, rfl, by simp, hl, hm, by omega, fun h0 => ?_, fun h => by cases h⟩
    have hc0 := hcell 0 (by omega)
    obtain ⟨b, o, s⟩ := x
    have hsp : s = none := by simpa [Addr.add] using World.cell?_spot hc0
    subst hsp
    refine ⟨b, o, rfl, block_lt_of_cell hc0, fun i hi => ?_⟩
    have hci := hcell i (by omega)
    rw [addr_add] at hci
    rw [hci]
    have e' : eB ((List.range l).map Bf) i = Bf i := by simp [eB, hi]
    rw [e']
theorem mem_weightsAll {H : Type} {P : Program} {e : TypeId} {n : Nat} {D : DataW H} (hn : n ∈ D.weights P e) : ∀ {l : List (DataW H)}, D ∈ l → n ∈ DataW.weightsAll P e l
  | [], h => by simp at h
  | d :: r, h => by
    simp only [DataW.weightsAll, List.mem_append]
    rcases List.mem_cons.1 h with rfl | h
    · exact .inl hn
    · exact .inr (mem_weightsAll hn h)
structure LgAt where
  l : LogS
  q : Option Addr
  m : Nat
  d : Nat
set_option linter.unusedSimpArgs false in
set_option maxRecDepth 100000 in
theorem openLogs {H : Type} {enc : TypeId × Value → H} {W : World} {v : Value} {fuel : Nat} {y : DataW H × List MemPlace} (hf : DataW.trod enc Try.prog W 0 (fun _ => true) true fuel 26 [v] = some y) (hall : ∀ n ∈ y.1.weights Try.prog 26, n ≤ reachBytes) : ∃ p n c l, v = .slice p n c ∧ LogsIn W p n c l := by
  rcases Go.Deep.open_slice Try.underlying26 hf with ⟨hcs, _⟩ | ⟨x, len, cap, m, n, D, Pl', hcs, _, hl, hm, hmm, hxx, hx⟩
  · simp only [List.cons.injEq, and_true] at hcs
    subst hcs
    exact ⟨none, 0, 0, [], rfl, ⟨rfl, Nat.le_refl _, Nat.zero_le _, Nat.zero_le _, fun h => by omega, fun _ => rfl⟩⟩
  · simp only [List.cons.injEq, and_true] at hcs
    subst hcs
    simp only [if_true] at hmm
    subst hmm
    subst hxx
    have hs := hall ((len + (m - len)) * 32) (by simp [DataW.weights, Try.underlying26, bytesOfLg])
    simp only [reachBytes] at hs
    have hsp : 0 < len → x.spot = none := by
      intro h0
      obtain ⟨cs', h1, _⟩ := hx 0 (by omega)
      rw [cellsOfLg] at h1
      obtain ⟨_, hlen, hcell⟩ := World.cells?_some h1
      have c0 := hcell 0 (by omega)
      rw [Nat.zero_mul, Go.Deep.add_add, List.getElem?_eq_getElem (by omega)] at c0
      simpa [Addr.add] using World.cell?_spot c0
    have each : ∀ i, i < len → ∃ g : LgAt, x.spot = none ∧ x.block < W.heap.size ∧ InI W g.q g.m g.d g.l.pages ∧ W.cell? ⟨x.block, x.off + i * 2, none⟩ = some (.int .i64 g.l.phys) ∧ W.cell? ⟨x.block, x.off + i * 2 + 1, none⟩ = some (.slice g.q g.m g.d) := by
      intro i hi
      obtain ⟨cs', h1, h2⟩ := hx i (by omega)
      rw [cellsOfLg] at h1
      obtain ⟨_, hlen, hcell⟩ := World.cells?_some h1
      obtain ⟨xs, k, hk, hxy, _, hxl, hfl⟩ := DataW.trod_struct Try.underlying61 h2
      simp only [Prod.mk.injEq] at hxy
      match xs, hxl, cs', hlen with
      | [y0, y1], _, [v0, v1], _ =>
        have g0 := hfl 0 _ rfl
        have g1 := hfl 1 _ rfl
        simp [cellsOf3, cellsOfIs] at g0 g1
        obtain ⟨z0, e0, _, _⟩ := DataW.trod_int Try.underlying3 g0
        obtain ⟨q, mm, dd, ms, e1, hin⟩ := openI Try.underlying22 Try.underlying3 cellsOf3 bytesOf3 g1 (fun n hn => hall n (by
          have hDi : n ∈ (D i).weights Try.prog 61 := by
            rw [hxy.1]
            simp only [DataW.weights, Try.underlying61, List.map_cons, List.map_nil, DataW.weightsEach, List.mem_append]
            exact .inr (.inl hn)
          have := mem_weightsAll (l := (List.range len).map D) hDi (List.mem_map.2 ⟨i, List.mem_range.2 hi, rfl⟩)
          simp only [DataW.weights, Try.underlying26, List.mem_cons, List.mem_append]
          exact .inr (.inl this)))
        cases e0; cases e1
        have c0 := hcell 0 (by omega)
        have c1 := hcell 1 (by omega)
        rw [Go.Deep.add_add] at c0 c1
        have hs := hsp (by omega)
        obtain ⟨xb, xo, xs'⟩ := x
        dsimp only at hs
        subst hs
        rw [addr_add] at c0 c1
        have hlt := block_lt_of_cell (c0.trans (by rfl))
        exact ⟨⟨⟨z0, ms⟩, q, mm, dd⟩, rfl, hlt, hin, by simpa using c0, by simpa [Nat.add_assoc] using c1⟩
    obtain ⟨g, hg⟩ := @Go.Deep.choose_lt LgAt ⟨⟨⟨0, []⟩, none, 0, 0⟩⟩ _ _ each
    refine ⟨some x, len, m, (List.range len).map (fun i => (g i).l), rfl, ⟨by simp, hl, hm, by omega, fun h0 => ?_, fun h => by cases h⟩⟩
    have h00 := hg 0 h0
    obtain ⟨xb, xo, xs'⟩ := x
    have hs : xs' = none := h00.1
    subst hs
    refine ⟨xb, xo, rfl, h00.2.1, fun i l hi => ?_⟩
    have hil : i < len := by have := (List.getElem?_eq_some_iff.1 hi).1; simpa using this
    obtain ⟨_, _, hin, hc0, hc1⟩ := hg i hil
    obtain rfl : (g i).l = l := by simpa [hil] using hi
    exact ⟨_, _, _, hc0, hc1, hin⟩
set_option maxRecDepth 100000 in
/-- How a table inside came in. -/
theorem openTabK {H : Type} {enc : TypeId × Value → H} {W : World} {fuel : Nat} {c0 c1 c2 c3 c4 c5 c6 c7 c8 : Value} {d : DataW H} {p : List MemPlace} (hf : DataW.trod enc Try.prog W 0 (fun _ => true) true fuel 28 [c0, c1, c2, c3, c4, c5, c6, c7, c8] = some (d, p)) (hall : ∀ n ∈ d.weights Try.prog 28, n ≤ reachBytes) :
    ∃ (V : TabV) (T : Tab), [c0, c1, c2, c3, c4, c5, c6, c7, c8] = tabC V T ∧ TabIn W V T := by
  obtain ⟨xs, k, hk, hxy, _, hxl, hfl⟩ := DataW.trod_struct Try.underlying28 hf
  simp only [Prod.mk.injEq] at hxy
  match xs, hxl with
  | [y0, y1, y2, y3, y4, y5, y6], _ =>
    obtain ⟨rfl, _⟩ := hxy
    have g0 := hfl 0 _ rfl
    have g1 := hfl 1 _ rfl
    have g2 := hfl 2 _ rfl
    have g3 := hfl 3 _ rfl
    have g4 := hfl 4 _ rfl
    have g5 := hfl 5 _ rfl
    have g6 := hfl 6 _ rfl
    simp [cellsOf3, cellsOfIs, cellsOfBs, cellsOfSq, cellsOfLs] at g0 g1 g2 g3 g4 g5 g6
    obtain ⟨z0, e0, _, _⟩ := DataW.trod_int Try.underlying3 g0
    obtain ⟨z1, e1, _, _⟩ := DataW.trod_int Try.underlying3 g1
    obtain ⟨z2, e2, _, _⟩ := DataW.trod_int Try.underlying3 g2
    obtain ⟨us, k5, _, _, _, hul, hfu⟩ := DataW.trod_struct Try.underlying25 g5
    obtain ⟨u0, u1, u2, rfl⟩ : ∃ u0 u1 u2, us = [u0, u1, u2] := by
      match us, hul with
      | [a0, a1, a2], _ => exact ⟨a0, a1, a2, rfl⟩
    have s0 := hfu 0 _ rfl
    have s1 := hfu 1 _ rfl
    have s2 := hfu 2 _ rfl
    simp [cellsOf3] at s0 s1 s2
    obtain ⟨z5, e5, _, _⟩ := DataW.trod_int Try.underlying3 s0
    obtain ⟨z6, e6, _, _⟩ := DataW.trod_int Try.underlying3 s1
    obtain ⟨z7, e7, _, _⟩ := DataW.trod_int Try.underlying3 s2
    cases e0; cases e1; cases e2; cases e5; cases e6; cases e7
    have w3 : ∀ n ∈ y3.1.weights Try.prog 22, n ≤ reachBytes := fun n hn => hall n (by
      simp only [DataW.weights, Try.underlying28, List.map_cons, List.map_nil, DataW.weightsEach, List.mem_append]
      exact .inr (.inr (.inr (.inl hn))))
    have w4 : ∀ n ∈ y4.1.weights Try.prog 23, n ≤ reachBytes := fun n hn => hall n (by
      simp only [DataW.weights, Try.underlying28, List.map_cons, List.map_nil, DataW.weightsEach, List.mem_append]
      exact .inr (.inr (.inr (.inr (.inl hn)))))
    have w6 : ∀ n ∈ y6.1.weights Try.prog 26, n ≤ reachBytes := fun n hn => hall n (by
      simp only [DataW.weights, Try.underlying28, List.map_cons, List.map_nil, DataW.weightsEach, List.mem_append]
      exact .inr (.inr (.inr (.inr (.inr (.inr (.inl hn)))))))
    obtain ⟨pd, nd, cd, D, rfl, hD⟩ := openI Try.underlying22 Try.underlying3 cellsOf3 bytesOf3 g3 w3
    obtain ⟨ph, nh, ch, Hv, rfl, hH⟩ := openBo Try.underlying23 Try.underlying4 cellsOf4 bytesOf4 g4 w4
    obtain ⟨pl, nl, cl, lg, rfl, hL⟩ := openLogs g6 w6
    exact ⟨⟨pd, nd, cd, ph, nh, ch, pl, nl, cl⟩, ⟨z0, z1, z2, D, Hv, z5, z6, z7, lg⟩, rfl, hD, hH, hL⟩
set_option maxRecDepth 100000 in
/-- How a Four came in. -/
theorem openFour {H : Type} {enc : TypeId × Value → H} {W : World} {r : Reach} {b0 : Nat} {v : Value} {d : DataW H} {p : List MemPlace} {ts : List TypeId} {ds : List (DataW H)} {j : Nat} (hv : Value.okWide Try.prog W r b0 47 v)
    (h : DataW.Trod enc Try.prog W 0 (fun _ => true) true 47 v d p) (hsz : (DataW.weightsEach Try.prog ts ds).all (· ≤ reachBytes) = true) (ht : ts[j]? = some 47) (hd : ds[j]? = some d) :
    ∃ (V : TabV) (T : Tab) (kind blk n phys : Int), v = .agg #[.int .i64 T.pages, .int .i64 T.logical, .int .i64 T.k, .slice V.pd V.nd V.cd, .slice V.ph V.nh V.ch, .int .i64 T.sp, .int .i64 T.sl, .int .i64 T.su, .slice V.pl V.nl V.cl, .int .i64 kind, .int .i64 blk, .int .i64 n, .int .i64 phys] ∧ TabIn W V T := by
  obtain ⟨cs, rfl, hcs⟩ := okWide_struct Try.underlying47 hv
  rw [cellsOfF] at hcs
  obtain ⟨c0, c1, c2, c3, c4, c5, c6, c7, c8, c9, c10, c11, c12, rfl⟩ : ∃ c0 c1 c2 c3 c4 c5 c6 c7 c8 c9 c10 c11 c12, cs = #[c0, c1, c2, c3, c4, c5, c6, c7, c8, c9, c10, c11, c12] := by
    obtain ⟨l⟩ := cs
    match l, hcs with
    | [c0, c1, c2, c3, c4, c5, c6, c7, c8, c9, c10, c11, c12], _ => exact ⟨c0, c1, c2, c3, c4, c5, c6, c7, c8, c9, c10, c11, c12, rfl⟩
  obtain ⟨fuel, hf⟩ := h
  obtain ⟨xs, k, hk, hxy, _, hxl, hfl⟩ := DataW.trod_struct Try.underlying47 hf
  simp only [Prod.mk.injEq] at hxy
  match xs, hxl with
  | [y0, y1, y2, y3], _ =>
    have hall : ∀ n ∈ d.weights Try.prog 47, n ≤ reachBytes := fun n hn => by simpa using List.all_eq_true.1 hsz _ (DataW.weights_mem_each ht hd n hn)
    obtain ⟨rfl, _⟩ := hxy
    have g0 := hfl 0 _ rfl
    have g1 := hfl 1 _ rfl
    have g2 := hfl 2 _ rfl
    have g3 := hfl 3 _ rfl
    simp [Value.cells, cellsOf3, cellsOfT, cellsOfS] at g0 g1 g2 g3
    obtain ⟨z2, e2, _, _⟩ := DataW.trod_int Try.underlying3 g2
    obtain ⟨z3, e3, _, _⟩ := DataW.trod_int Try.underlying3 g3
    obtain ⟨us, k5, _, _, _, hul, hfu⟩ := DataW.trod_struct Try.underlying30 g1
    obtain ⟨u0, u1, rfl⟩ : ∃ u0 u1, us = [u0, u1] := by
      match us, hul with
      | [a0, a1], _ => exact ⟨a0, a1, rfl⟩
    have s0 := hfu 0 _ rfl
    have s1 := hfu 1 _ rfl
    simp [cellsOf3] at s0 s1
    obtain ⟨z5, e5, _, _⟩ := DataW.trod_int Try.underlying3 s0
    obtain ⟨z6, e6, _, _⟩ := DataW.trod_int Try.underlying3 s1
    obtain ⟨dy, py⟩ := y0
    have w0 : ∀ n ∈ dy.weights Try.prog 28, n ≤ reachBytes := fun n hn => hall n (by
      simp only [DataW.weights, Try.underlying47, List.map_cons, List.map_nil, DataW.weightsEach, List.mem_append]
      exact .inl hn)
    obtain ⟨V, T, hc, hT⟩ := openTabK g0 w0
    cases e2; cases e3; cases e5; cases e6
    unfold tabC at hc
    simp only [List.cons.injEq, and_true] at hc
    obtain ⟨rfl, rfl, rfl, rfl, rfl, rfl, rfl, rfl, rfl⟩ := hc
    exact ⟨V, T, z5, z6, z2, z3, rfl, hT⟩
end Go.Proofs.Ythibaefoioeghaa
