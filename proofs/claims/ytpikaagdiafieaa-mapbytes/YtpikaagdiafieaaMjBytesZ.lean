/-
  For every page p and all bytes b: the call of MapBytes returns true (Bytes and Parse answer as the document says), and both arguments read afterwards as they read before. No condition is laid on them. (Joined: MjLift, MjLiftP, MjC7none, MjC8, MjBytes.)
-/
import Derived.Test.YtpikaagdiafieaaRows
import Derived.Test.YtpikaagdiafieaaMjRec
import Derived.ProofKit
import Derived.OpenShut
import Derived.ShutString
import Derived.ChangeOld
import Derived.SizedLaws
import Derived.Lib.SmallJoins
import Derived.Deep.Grids
import Derived.Test.YtpikaagdiafieaaMjReplay
import Derived.Test.YtpikaagdiafieaaMjC6
import Derived.Deep.CutRange
import Derived.Test.YtpikaagdiafieaaMjC7part
import Derived.Test.YtpikaagdiafieaaMjC7recs
import Derived.Test.YtpikaagdiafieaaMjSameP
import Derived.Test.YtpikaagdiafieaaMjBegun
namespace Go.Proofs.Ytpikaagdiafieaa
open Go.ChangeShapes Go.WideShapes Go.ChangeAt Go.RowKit Go.Joins
theorem own : ownKnob Try.prog.godebug = none := by kernel_rfl
theorem laidOut : laidOutB Try.prog = true := by kernel_rfl
theorem bytesOf3 : Try.prog.bytesOf 3 = 8 := by kernel_rfl
theorem bytesOf2 : Try.prog.bytesOf 2 = 8 := by kernel_rfl
theorem cellsOf3 : Try.prog.cellsOf 3 = 1 := by kernel_rfl
theorem cellsOf2 : Try.prog.cellsOf 2 = 1 := by kernel_rfl
theorem cellsOfS : Try.prog.cellsOf 25 = 3 := by kernel_rfl
theorem cellsOfR : Try.prog.cellsOf 65 = 3 := by kernel_rfl
theorem bytesOfR : Try.prog.bytesOf 65 = 24 := by kernel_rfl
theorem cellsOf4 : Try.prog.cellsOf 4 = 1 := by kernel_rfl
theorem bytesOf4 : Try.prog.bytesOf 4 = 1 := by kernel_rfl
/-- A slice of numbers of kind i64, by its reading and its weights. -/
theorem openI {H : Type} {enc : TypeId × Value → H} {W : World} {t e : TypeId} {fuel : Nat} {v : Value} {y : DataW H × List MemPlace} (ht : Try.prog.underlying t = some (.slice e)) (he : Try.prog.underlying e = some (.int .i64)) (hc1 : Try.prog.cellsOf e = 1) (hb : Try.prog.bytesOf e = 8)
    (hf : DataW.trod enc Try.prog W 0 (fun _ => true) true fuel t [v] = some y) (hs : ∀ n ∈ y.1.weights Try.prog t, n ≤ reachBytes) : ∃ p n c xs, v = .slice p n c ∧ InI W p n c xs := by
  rcases open_ints ht he hc1 hf with ⟨hcs, _⟩ | ⟨x, l, c, zs, hcs, _, hl, hm, hz, hx, hcell, hwz⟩
  · simp only [List.cons.injEq, and_true] at hcs
    subst hcs
    exact ⟨none, 0, 0, [], rfl, InI.empty W⟩
  · simp only [List.cons.injEq, and_true] at hcs
    subst hcs
    have hzl : zs.length = c := by simpa using hz
    subst hx
    have hw := hs (((zs.take l).length + (zs.drop l).length) * 8) (by simp [DataW.weights, ht, hb, lits])
    simp only [List.length_take, List.length_drop, reachBytes, hzl] at hw
    refine ⟨some x, l, c, zs.take l, rfl, by rw [List.length_take]; omega, hl, hm, by omega, fun h0 => ?_, fun h => by cases h⟩
    have hc0 := hcell 0 (by omega)
    obtain ⟨b, o, s⟩ := x
    have hsp : s = none := by simpa [Addr.add] using World.cell?_spot hc0
    subst hsp
    refine ⟨b, o, rfl, block_lt_of_cell hc0, fun i hi => ?_⟩
    have hci := hcell i (by omega)
    rw [addr_add] at hci
    rw [hci]
    have e' : eI (zs.take l) i = zs.getD i 0 := by simp [eI, List.getElem?_take_of_lt hi]
    rw [e']
theorem openBo {H : Type} {enc : TypeId × Value → H} {W : World} {t e : TypeId} {fuel : Nat} {v : Value} {y : DataW H × List MemPlace} (ht : Try.prog.underlying t = some (.slice e)) (he : Try.prog.underlying e = some .bool) (hc1 : Try.prog.cellsOf e = 1) (hb : Try.prog.bytesOf e = 1)
    (hf : DataW.trod enc Try.prog W 0 (fun _ => true) true fuel t [v] = some y) (hs : ∀ n ∈ y.1.weights Try.prog t, n ≤ reachBytes) : ∃ p n c xs, v = .slice p n c ∧ InB W p n c xs := by
  rcases Go.Deep.open_bools ht he hc1 hf with ⟨hcs, _⟩ | ⟨x, l, c, Bf, hcs, _, hl, hm, hx, hcell⟩
  · simp only [List.cons.injEq, and_true] at hcs
    subst hcs
    exact ⟨none, 0, 0, [], rfl, InB.empty W⟩
  · simp only [List.cons.injEq, and_true] at hcs
    subst hcs
    subst hx
    have hw := hs ((l + (c - l)) * 1) (by simp [DataW.weights, Go.Deep.boolRow, ht, hb])
    simp only [reachBytes] at hw
    refine ⟨some x, l, c, (List.range l).map Bf, rfl, by simp, hl, hm, by omega, fun h0 => ?_, fun h => by cases h⟩
    have hc0 := hcell 0 (by omega)
    obtain ⟨b, o, s⟩ := x
    have hsp : s = none := by simpa [Addr.add] using World.cell?_spot hc0
    subst hsp
    refine ⟨b, o, rfl, block_lt_of_cell hc0, fun i hi => ?_⟩
    have hci := hcell i (by omega)
    rw [addr_add] at hci
    rw [hci]
    have e' : eB ((List.range l).map Bf) i = Bf i := by simp [eB, hi]
    rw [e']
set_option maxRecDepth 100000 in
theorem openState {H : Type} {enc : TypeId × Value → H} {W : World} {r : Reach} {b0 : Nat} {v : Value} {d : DataW H} {p : List MemPlace} {ts : List TypeId} {ds : List (DataW H)} {j : Nat} (hv : Value.okWide Try.prog W r b0 25 v)
    (h : DataW.Trod enc Try.prog W 0 (fun _ => true) true 25 v d p) (hsz : (DataW.weightsEach Try.prog ts ds).all (· ≤ reachBytes) = true) (ht : ts[j]? = some 25) (hd : ds[j]? = some d) :
    ∃ V s, v = SV.val V s ∧ InS W V s := by
  obtain ⟨c0, c1, c2, y0, y1, y2, k, rfl, rfl, rfl, hy0, hy1, hy2⟩ := open_agg3 Try.underlying25 (by kernel_rfl) cellsOfS hv h
  have hall : ∀ n ∈ (DataW.agg [y0.1, y1.1, y2.1]).weights Try.prog 25, n ≤ reachBytes := fun n hn => by simpa using List.all_eq_true.1 hsz _ (DataW.weights_mem_each ht hd n hn)
  have hw0 : ∀ n ∈ y0.1.weights Try.prog 22, n ≤ reachBytes := fun n hn => hall n (by
    simp only [DataW.weights, Try.underlying25, List.map_cons, List.map_nil, DataW.weightsEach, List.mem_append]
    exact .inl hn)
  have hw1 : ∀ n ∈ y1.1.weights Try.prog 23, n ≤ reachBytes := fun n hn => hall n (by
    simp only [DataW.weights, Try.underlying25, List.map_cons, List.map_nil, DataW.weightsEach, List.mem_append]
    exact .inr (.inl hn))
  obtain ⟨p, n, c, B, rfl, hB⟩ := openBo Try.underlying22 Try.underlying4 cellsOf4 bytesOf4 hy0 hw0
  obtain ⟨q, m, e, V, rfl, hV⟩ := openI Try.underlying23 Try.underlying2 cellsOf2 bytesOf2 hy1 hw1
  obtain ⟨z, hz, _, _⟩ := DataW.trod_int Try.underlying2 hy2
  cases hz
  exact ⟨⟨p, n, c, q, m, e⟩, ⟨B, V, z⟩, rfl, ⟨hB, hV⟩⟩
set_option maxRecDepth 100000 in
theorem openRecs' {H : Type} {enc : TypeId × Value → H} {W : World} {v : Value} {fuel : Nat} {y : DataW H × List MemPlace} (hf : DataW.trod enc Try.prog W 0 (fun _ => true) true fuel 34 [v] = some y) (hall : ∀ n ∈ y.1.weights Try.prog 34, n ≤ reachBytes) : ∃ a len cap l, v = .slice a len cap ∧ InR W a len cap l ∧ len ≤ 46912496118442 := by
  rcases Go.Deep.open_slice Try.underlying34 hf with ⟨hcs, _⟩ | ⟨x, len, cap, m, n, D, Pl, hcs, _, hl, hm, hmm, hxx, hx⟩
  · simp only [List.cons.injEq, and_true] at hcs
    subst hcs
    exact ⟨none, 0, 0, [], rfl, InR.empty W, by omega⟩
  · simp only [List.cons.injEq, and_true] at hcs
    subst hcs
    simp only [if_true] at hmm
    subst hmm
    subst hxx
    have hs := hall ((len + (m - len)) * 24) (by simp [DataW.weights, Try.underlying34, bytesOfR])
    simp only [reachBytes] at hs
    have hsp : 0 < len → x.spot = none := by
      intro h0
      obtain ⟨cs', h1, _⟩ := hx 0 (by omega)
      rw [cellsOfR] at h1
      obtain ⟨_, hlen, hcell⟩ := World.cells?_some h1
      have c0 := hcell 0 (by omega)
      rw [Nat.zero_mul, Go.Deep.add_add, List.getElem?_eq_getElem (by omega)] at c0
      simpa [Addr.add] using World.cell?_spot c0
    have each : ∀ i, i < len → ∃ g : MR, x.spot = none ∧ x.block < W.heap.size ∧ W.cell? ⟨x.block, x.off + i * 3, none⟩ = some (.int .i64 g.kind) ∧ W.cell? ⟨x.block, x.off + i * 3 + 1, none⟩ = some (.int .i64 g.block) ∧ W.cell? ⟨x.block, x.off + i * 3 + 2, none⟩ = some (.int .i64 g.value) := by
      intro i hi
      obtain ⟨cs', h1, h2⟩ := hx i (by omega)
      rw [cellsOfR] at h1
      obtain ⟨_, hlen, hcell⟩ := World.cells?_some h1
      obtain ⟨xs, k, hk, hxy, _, hxl, hfl⟩ := DataW.trod_struct Try.underlying65 h2
      simp only [Prod.mk.injEq] at hxy
      match xs, hxl, cs', hlen with
      | [y0, y1, y2], _, [v0, v1, v2], _ =>
        have g0 := hfl 0 _ rfl
        have g1 := hfl 1 _ rfl
        have g2 := hfl 2 _ rfl
        simp [cellsOf2, cellsOf3] at g0 g1 g2
        obtain ⟨z0, e0, _, _⟩ := DataW.trod_int Try.underlying3 g0
        obtain ⟨z1, e1, _, _⟩ := DataW.trod_int Try.underlying3 g1
        obtain ⟨z2, e2, _, _⟩ := DataW.trod_int Try.underlying2 g2
        cases e0; cases e1; cases e2
        have c0 := hcell 0 (by omega)
        have c1 := hcell 1 (by omega)
        have c2 := hcell 2 (by omega)
        rw [Go.Deep.add_add] at c0 c1 c2
        have hs := hsp (by omega)
        obtain ⟨xb, xo, xs'⟩ := x
        dsimp only at hs
        subst hs
        rw [addr_add] at c0 c1 c2
        have hlt := block_lt_of_cell (c0.trans (by rfl))
        exact ⟨⟨z0, z1, z2⟩, rfl, hlt, by simpa using c0, by simpa [Nat.add_assoc] using c1, by simpa [Nat.add_assoc] using c2⟩
    obtain ⟨g, hg⟩ := @Go.Deep.choose_lt MR ⟨⟨0, 0, 0⟩⟩ _ _ each
    refine ⟨some x, len, m, (List.range len).map g, rfl, ⟨by simp, hl, hm, by omega, fun h0 => ?_, fun h => by cases h⟩, by omega⟩
    have h00 := hg 0 h0
    obtain ⟨xb, xo, xs'⟩ := x
    have hs : xs' = none := h00.1
    subst hs
    refine ⟨xb, xo, rfl, h00.2.1, fun i hi => ?_⟩
    obtain ⟨_, _, w0, w1, w2⟩ := hg i hi
    have e' : eR ((List.range len).map g) i = g i := by simp [eR, hi]
    rw [e']
    exact ⟨w0, w1, w2⟩
theorem openRecs {H : Type} {enc : TypeId × Value → H} {W : World} {v : Value} {d : DataW H} {p : List MemPlace} {ts : List TypeId} {ds : List (DataW H)} {j : Nat} (hv : ∃ a l c, v = .slice a l c)
    (h : DataW.Trod enc Try.prog W 0 (fun _ => true) true 34 v d p) (hsz : (DataW.weightsEach Try.prog ts ds).all (· ≤ reachBytes) = true) (ht : ts[j]? = some 34) (hd : ds[j]? = some d) : ∃ a n c l, v = .slice a n c ∧ InR W a n c l ∧ n ≤ 46912496118442 := by
  obtain ⟨a, l, c, rfl⟩ := hv
  obtain ⟨fuel, hf⟩ := h
  exact openRecs' hf (fun n hn => by simpa using List.all_eq_true.1 hsz _ (DataW.weights_mem_each ht hd n hn))
end Go.Proofs.Ytpikaagdiafieaa

namespace Go.Proofs.Ytpikaagdiafieaa
open Go.ChangeShapes Go.WideShapes Go.ChangeAt Go.RowKit Go.Joins
theorem cellsOfMP : Try.prog.cellsOf 42 = 7 := by kernel_rfl
theorem bytesOfMP : Try.prog.bytesOf 42 = 104 := by kernel_rfl
theorem cellsOfB : Try.prog.cellsOf 22 = 1 := by kernel_rfl
theorem cellsOfL : Try.prog.cellsOf 23 = 1 := by kernel_rfl
theorem cellsOfRs : Try.prog.cellsOf 34 = 1 := by kernel_rfl
set_option maxRecDepth 100000 in
theorem openPageCells {H : Type} {enc : TypeId × Value → H} {W : World} {cs : List Value} {fuel : Nat} {y : DataW H × List MemPlace} (hl : cs.length = 7) (h2 : DataW.trod enc Try.prog W 0 (fun _ => true) true fuel 42 cs = some y)
    (hall : ∀ n ∈ y.1.weights Try.prog 42, n ≤ reachBytes) : ∃ V P, cs = PV.cells V P ∧ InP W V P := by
  obtain ⟨xs, k, hk, hxy, _, hxl, hfl⟩ := DataW.trod_struct Try.underlying42 h2
  subst hxy
  match xs, hxl, cs, hl with
  | [y0, y1, y2, y3, y4, y5, y6], _, [v0, v1, v2, v3, v4, v5, v6], _ =>
    have g0 := hfl 0 _ rfl
    have g1 := hfl 1 _ rfl
    have g2 := hfl 2 _ rfl
    have g3 := hfl 3 _ rfl
    have g4 := hfl 4 _ rfl
    have g5 := hfl 5 _ rfl
    have g6 := hfl 6 _ rfl
    simp [cellsOf2, cellsOf3, cellsOfB, cellsOfL, cellsOfRs] at g0 g1 g2 g3 g4 g5 g6
    obtain ⟨z0, e0, _, _⟩ := DataW.trod_int Try.underlying3 g0
    obtain ⟨z1, e1, _, _⟩ := DataW.trod_int Try.underlying2 g1
    obtain ⟨z2, e2, _, _⟩ := DataW.trod_int Try.underlying3 g2
    obtain ⟨z3, e3, _, _⟩ := DataW.trod_int Try.underlying2 g3
    cases e0; cases e1; cases e2; cases e3
    have hw4 : ∀ n ∈ y4.1.weights Try.prog 22, n ≤ reachBytes := fun n hn => hall n (by
      simp only [DataW.weights, Try.underlying42, List.map_cons, List.map_nil, DataW.weightsEach, List.mem_append]
      exact .inr (.inr (.inr (.inr (.inl hn)))))
    have hw5 : ∀ n ∈ y5.1.weights Try.prog 23, n ≤ reachBytes := fun n hn => hall n (by
      simp only [DataW.weights, Try.underlying42, List.map_cons, List.map_nil, DataW.weightsEach, List.mem_append]
      exact .inr (.inr (.inr (.inr (.inr (.inl hn))))))
    have hw6 : ∀ n ∈ y6.1.weights Try.prog 34, n ≤ reachBytes := fun n hn => hall n (by
      simp only [DataW.weights, Try.underlying42, List.map_cons, List.map_nil, DataW.weightsEach, List.mem_append]
      exact .inr (.inr (.inr (.inr (.inr (.inr (.inl hn)))))))
    obtain ⟨pb, nb, cb, xb, rfl, hB⟩ := openBo Try.underlying22 Try.underlying4 cellsOf4 bytesOf4 g4 hw4
    obtain ⟨pw, nw, cw, xw, rfl, hV⟩ := openI Try.underlying23 Try.underlying2 cellsOf2 bytesOf2 g5 hw5
    obtain ⟨pr, nr, cr, xr, rfl, hR, _⟩ := openRecs' g6 hw6
    exact ⟨⟨pb, nb, cb, pw, nw, cw, pr, nr, cr⟩, ⟨z0, z1, z2, z3, xb, xw, xr⟩, rfl, ⟨hB, hV, hR⟩⟩
set_option maxRecDepth 100000 in
theorem openPage {H : Type} {enc : TypeId × Value → H} {W : World} {r : Reach} {b0 : Nat} {v : Value} {d : DataW H} {p : List MemPlace} {ts : List TypeId} {ds : List (DataW H)} {j : Nat} (hv : Value.okWide Try.prog W r b0 42 v)
    (h : DataW.Trod enc Try.prog W 0 (fun _ => true) true 42 v d p) (hsz : (DataW.weightsEach Try.prog ts ds).all (· ≤ reachBytes) = true) (ht : ts[j]? = some 42) (hd : ds[j]? = some d) :
    ∃ V P, v = PV.val V P ∧ InP W V P := by
  obtain ⟨cs, rfl, hszc⟩ := okWide_struct Try.underlying42 hv
  rw [cellsOfMP] at hszc
  obtain ⟨fuel, hf⟩ := h
  obtain ⟨V, P, hcs, hin⟩ := openPageCells (by simpa [Value.cells] using hszc) hf (fun n hn => by simpa using List.all_eq_true.1 hsz _ (DataW.weights_mem_each ht hd n hn))
  refine ⟨V, P, ?_, hin⟩
  have : cs.toList = PV.cells V P := by simpa [Value.cells] using hcs
  rw [show cs = (PV.cells V P).toArray by rw [← this]]
  rfl
theorem mem_weightsAll {H : Type} {P : Program} {e : TypeId} {n : Nat} {D : DataW H} (hn : n ∈ D.weights P e) : ∀ {l : List (DataW H)}, D ∈ l → n ∈ DataW.weightsAll P e l
  | [], h => by simp at h
  | d :: r, h => by
    simp only [DataW.weightsAll, List.mem_append]
    rcases List.mem_cons.1 h with rfl | h
    · exact .inl hn
    · exact .inr (mem_weightsAll hn h)
set_option maxRecDepth 100000 in
theorem openPages {H : Type} {enc : TypeId × Value → H} {W : World} {v : Value} {d : DataW H} {p : List MemPlace} {ts : List TypeId} {ds : List (DataW H)} {j : Nat} (hv : ∃ a l c, v = .slice a l c)
    (h : DataW.Trod enc Try.prog W 0 (fun _ => true) true 43 v d p) (hsz : (DataW.weightsEach Try.prog ts ds).all (· ≤ reachBytes) = true) (ht : ts[j]? = some 43) (hd : ds[j]? = some d) : ∃ a n c f l, v = .slice a n c ∧ InPs W a n c f l ∧ n ≤ 46912496118442 := by
  obtain ⟨a, len, cap, rfl⟩ := hv
  obtain ⟨fuel, hf⟩ := h
  have hall : ∀ n ∈ d.weights Try.prog 43, n ≤ reachBytes := fun n hn => by simpa using List.all_eq_true.1 hsz _ (DataW.weights_mem_each ht hd n hn)
  rcases Go.Deep.open_slice Try.underlying43 hf with ⟨hcs, _⟩ | ⟨x, l, c, m, n, D, Pl, hcs, _, hl, hm, hmm, hxx, hx⟩
  · simp [Value.cells] at hcs
    obtain ⟨rfl, rfl, rfl⟩ := hcs
    exact ⟨none, 0, 0, fun _ => ⟨none, 0, 0, none, 0, 0, none, 0, 0⟩, [], rfl, ⟨rfl, Nat.le_refl _, Nat.zero_le _, Nat.zero_le _, fun h => by omega, fun i hi => by omega, fun _ => rfl⟩, by omega⟩
  · simp [Value.cells] at hcs
    obtain ⟨rfl, rfl, rfl⟩ := hcs
    simp only [if_true] at hmm
    subst hmm
    simp only [Prod.mk.injEq] at hxx
    obtain ⟨hd1, _⟩ := hxx
    rw [hd1] at hall
    have hs := hall ((len + (m - len)) * 104) (by simp [DataW.weights, Try.underlying43, bytesOfMP])
    simp only [reachBytes] at hs
    have hsp : 0 < len → x.spot = none := by
      intro h0
      obtain ⟨cs', h1, _⟩ := hx 0 (by omega)
      rw [cellsOfMP] at h1
      obtain ⟨_, hlen, hcell⟩ := World.cells?_some h1
      have c0 := hcell 0 (by omega)
      rw [Nat.zero_mul, Go.Deep.add_add, List.getElem?_eq_getElem (by omega)] at c0
      simpa [Addr.add] using World.cell?_spot c0
    have each : ∀ i, i < len → ∃ g : PV × MP, x.spot = none ∧ x.block < W.heap.size ∧ InP W g.1 g.2 ∧ ∀ jj u, (PV.cells g.1 g.2)[jj]? = some u → W.cell? ⟨x.block, x.off + i * 7 + jj, none⟩ = some u := by
      intro i hi
      obtain ⟨cs', h1, h2⟩ := hx i (by omega)
      rw [cellsOfMP] at h1
      obtain ⟨_, hlen, hcell⟩ := World.cells?_some h1
      obtain ⟨V, P, hcs, hin⟩ := openPageCells hlen h2 (fun n hn => hall n (by
        have := mem_weightsAll (l := (List.range len).map D) hn (List.mem_map.2 ⟨i, List.mem_range.2 hi, rfl⟩)
        simp only [DataW.weights, Try.underlying43, List.mem_cons, List.mem_append]
        exact .inr (.inl this)))
      subst hcs
      have hsx := hsp (by omega)
      obtain ⟨xb, xo, xs'⟩ := x
      dsimp only at hsx
      subst hsx
      have c0 := hcell 0 (by decide)
      rw [Go.Deep.add_add, addr_add] at c0
      have hlt := block_lt_of_cell (c0.trans (by rfl))
      refine ⟨(V, P), rfl, hlt, hin, fun jj u hu => ?_⟩
      have hjj : jj < 7 := by
        rcases Nat.lt_or_ge jj 7 with h' | h'
        · exact h'
        · rw [List.getElem?_eq_none (by exact h')] at hu; cases hu
      have cj := hcell jj (by exact hjj)
      rw [Go.Deep.add_add, addr_add] at cj
      rw [Nat.add_assoc, cj]
      exact hu
    obtain ⟨g, hg⟩ := @Go.Deep.choose_lt (PV × MP) ⟨(⟨none, 0, 0, none, 0, 0, none, 0, 0⟩, ⟨0, 0, 0, 0, [], [], []⟩)⟩ _ _ each
    refine ⟨some x, len, m, fun i => (g i).1, (List.range len).map (fun i => (g i).2), rfl, ⟨by simp, hl, hm, by omega, fun h0 => ?_, fun i hi => ?_, fun h => by cases h⟩, by omega⟩
    · have h00 := hg 0 h0
      obtain ⟨xb, xo, xs'⟩ := x
      have hsx : xs' = none := h00.1
      subst hsx
      refine ⟨xb, xo, rfl, h00.2.1, fun i hi jj u hu => ?_⟩
      have e' : eP ((List.range len).map (fun i => (g i).2)) i = (g i).2 := by simp [eP, hi]
      rw [e'] at hu
      exact (hg i hi).2.2.2 jj u hu
    · have e' : eP ((List.range len).map (fun i => (g i).2)) i = (g i).2 := by simp [eP, hi]
      rw [e']
      exact (hg i hi).2.2.1
end Go.Proofs.Ytpikaagdiafieaa

namespace Go.Proofs.Ytpikaagdiafieaa
open Go.RowKit
set_option linter.unusedSimpArgs false in
set_option linter.unusedVariables false in
set_option maxRecDepth 100000 in
set_option maxHeartbeats 8000000 in
theorem rparse_none (gb ob c : Nat) (xs : List Nat) (w : World) (hb : In w (some ⟨gb, ob, none⟩) 256 c xs) (hk1 : ¬ (rkind xs = 1 ∧ rmany xs ≤ 64)) (hk2 : ¬ (rkind xs = 2 ∧ rmany xs ≤ 24)) (R : MP × Int) (hR : R = if okMP (rreadP xs) = true ∧ writeL (rreadP xs) = xs then (rreadP xs, 0) else (MP.zero, 62)) :
    Calls Try.prog 37 #[.slice (some ⟨gb, ob, none⟩) 256 c] w (ResP w R) := by
  have hrr := Blk.new' w 42 #[.int .i64 0, .int .i64 0, .int .i64 0, .int .i64 0, .slice none 0 0, .slice none 0 0, .slice none 0 0]
  have hb0 := below_alloc w (.cells #[.int .i64 0, .int .i64 0, .int .i64 0, .int .i64 0, .slice none 0 0, .slice none 0 0, .slice none 0 0] 42)
  have hcap := hb.cap
  obtain ⟨gb', ob', hp', hlt', hcl⟩ := hb.at' (by decide)
  cases hp'
  have HR : Hid (R = if okMP (rreadP xs) = true ∧ writeL (rreadP xs) = xs then (rreadP xs, 0) else (MP.zero, 62)) := hR
  have HRD : Hid (rreadP xs = ⟨rkind xs, rgen xs, rpart xs, 0, [], [], []⟩) := by show _ = _; unfold rreadP; rw [if_neg hk1, if_neg hk2]
  clear hR
  generalize rreadP xs = Q at *
  have e0 : w.cell? ⟨gb, ob, none⟩ = some (.int .u8 (rkind xs)) := by have := hcl 0 (by decide); rw [Nat.add_zero] at this; exact this
  have e1 : w.cell? ⟨gb, ob + 1, none⟩ = some (.int .u8 (rpart xs)) := hcl 1 (by decide)
  have e2 : w.cell? ⟨gb, ob + 2, none⟩ = some (.int .u8 ((rmany xs : Nat) : Int)) := hcl 2 (by decide)
  have hr0 := hb.range 0
  have hr1 := hb.range 1
  have hr2 := hb.range 2
  have hk00 : 0 ≤ rkind xs ∧ rkind xs ≤ 255 := hr0
  have hk11 : 0 ≤ rpart xs ∧ rpart xs ≤ 255 := hr1
  have hk22 : rmany xs ≤ 255 := by have h := hr2.2; have : ((rmany xs : Nat) : Int) ≤ 255 := h; omega
  have hw0 : IntKind.i64.wrap (rkind xs) = rkind xs := by rw [IntKind.wrap_i64]; omega
  have hw1 : IntKind.i64.wrap (rpart xs) = rpart xs := by rw [IntKind.wrap_i64]; omega
  have hw2 : IntKind.i64.wrap ((rmany xs : Nat) : Int) = ((rmany xs : Nat) : Int) := by rw [IntKind.wrap_i64]; omega
  have hv0 : wrap64 (rkind xs) = rkind xs := (IntWalk.i64_left _).symm.trans hw0
  have hv1 : wrap64 (rpart xs) = rpart xs := (IntWalk.i64_left _).symm.trans hw1
  have hv2 : wrap64 ((rmany xs : Nat) : Int) = ((rmany xs : Nat) : Int) := (IntWalk.i64_left _).symm.trans hw2
  have hs8 : ∀ W : World, (Instr.slice 53 (.slice (some ⟨gb, ob, none⟩) 256 c) (some (.int .i64 8)) (some (.int .i64 16)) none).run Try.prog W = .ok (.slice (some ⟨gb, ob + 8, none⟩) 8 (c - 8)) W := fun W => slice_lh0 gb ob 256 c 8 8 16 rfl (by decide) (by decide) hcap W
  have nG := fun X (h : In X (some ⟨gb, ob, none⟩) 256 c xs) => number_any (some ⟨gb, ob + 8, none⟩) 8 (c - 8) (subL xs 8 8) X (h.sub0 8 8 (by decide)) (by decide)
  rw [show wI (numTo (subL xs 8 8) 8) = rgen xs from rfl] at nG
  generalize rgen xs = K4 at *
  generalize rkind xs = K0 at *
  generalize rpart xs = K1 at *
  obtain ⟨m, HMM⟩ : ∃ m, Hid (rmany xs = m) := ⟨_, rfl⟩
  rw [HMM.out] at e2 hw2 hv2 hk22 hk1 hk2
  clear hr0 hr1 hr2
  have HCL : Hid (∀ i, i < 256 → w.cell? ⟨gb, ob + i, none⟩ = some (.int .u8 (el xs i))) := hcl
  clear hcl
  go_enter Try.func37, Try.ntmps37
  go_upto_region 3 with (fail)
  generalize hW0 : w.alloc (.cells #[.int .i64 0, .int .i64 0, .int .i64 0, .int .i64 0, .slice none 0 0, .slice none 0 0, .slice none 0 0] 42) = W at *
  have hlW : w.heap.size < W.heap.size := hrr.lt
  clear hW0
  go_cut [4] from 15 (fun s4 wc => s4 = .pointer (some ⟨W.heap.size, 0, none⟩) ∧ Blk wc W.heap.size 42 [.int .i64 K0, .int .i64 K4, .int .i64 K1, .int .i64 0, .slice none 0 0, .slice none 0 0, .slice none 0 0] ∧ Below W.heap.size W wc)
  case first =>
    refine wp_region_noPanic ?_
    refine wp_region_held_drew (S := Below W.heap.size W) (by kernel_rfl) (Below.refl _ _).drew (fun hHeld => ?_)
    refine wpAnyH_take (i := 0) (v := ?_) rfl (by kernel_rfl) (by kernel_rfl) (by kernel_rfl) (fun _ _ _ h => h) (Or.inl ⟨by rfl, ?_⟩) hHeld ?_
    rotate_left
    · intro w' hSw; try dsimp only at hSw
      go_simp; try (with_reducible rfl)
    try simp only [Act.put, List.getElem_toArray, List.getElem_cons_succ, List.getElem_cons_zero, List.setIfInBounds_toArray, List.set_cons_zero, List.set_cons_succ]
    refine wpAnyH_take (i := 1) (v := ?_) rfl (by kernel_rfl) (by kernel_rfl) (by kernel_rfl) (fun _ _ _ h => h) (Or.inl ⟨by rfl, ?_⟩) hHeld ?_
    rotate_left
    · intro w' hSw; try dsimp only at hSw
      go_simp; try (with_reducible rfl)
    try simp only [Act.put, List.getElem_toArray, List.getElem_cons_succ, List.getElem_cons_zero, List.setIfInBounds_toArray, List.set_cons_zero, List.set_cons_succ]
    refine wpAnyH_take (i := 2) (v := ?_) rfl (by kernel_rfl) (by kernel_rfl) (by kernel_rfl) (fun _ _ _ h => h) (Or.inl ⟨by rfl, ?_⟩) hHeld ?_
    rotate_left
    · intro w' hSw; try dsimp only at hSw
      have d0 := ((bt hb0 hSw).cell (p := ⟨gb, ob, none⟩) hlt').trans e0
      have d1 := ((bt hb0 hSw).cell (p := ⟨gb, ob + 1, none⟩) hlt').trans e1
      go_simp; try (with_reducible rfl)
    try simp only [Act.put, List.getElem_toArray, List.getElem_cons_succ, List.getElem_cons_zero, List.setIfInBounds_toArray, List.set_cons_zero, List.set_cons_succ]
    refine wpAnyH_take (i := 3) (v := ?_) rfl (by kernel_rfl) (by kernel_rfl) (by kernel_rfl) (fun _ _ _ h => h) (Or.inl ⟨by rfl, ?_⟩) hHeld ?_
    rotate_left
    · intro w' hSw; try dsimp only at hSw
      go_simp; try (with_reducible rfl)
    try simp only [Act.put, List.getElem_toArray, List.getElem_cons_succ, List.getElem_cons_zero, List.setIfInBounds_toArray, List.set_cons_zero, List.set_cons_succ]
    refine wpAnyH_take (i := 4) (v := ?_) rfl (by kernel_rfl) (by kernel_rfl) (by kernel_rfl) (fun _ _ _ h => h) (Or.inl ⟨by rfl, ?_⟩) hHeld ?_
    rotate_left
    · intro w' hSw; try dsimp only at hSw
      go_simp; try (with_reducible rfl)
    try simp only [Act.put, List.getElem_toArray, List.getElem_cons_succ, List.getElem_cons_zero, List.setIfInBounds_toArray, List.set_cons_zero, List.set_cons_succ]
    refine wpAnyH_take (i := 5) (v := ?_) rfl (by kernel_rfl) (by kernel_rfl) (by kernel_rfl) (fun _ _ _ h => h) (Or.inl ⟨by rfl, ?_⟩) hHeld ?_
    rotate_left
    · intro w' hSw; try dsimp only at hSw
      go_simp; try (with_reducible rfl)
    try simp only [Act.put, List.getElem_toArray, List.getElem_cons_succ, List.getElem_cons_zero, List.setIfInBounds_toArray, List.set_cons_zero, List.set_cons_succ]
    refine wpAnyH_take (i := 6) (v := ?_) rfl (by kernel_rfl) (by kernel_rfl) (by kernel_rfl) (fun _ _ _ h => h) (Or.inl ⟨by rfl, ?_⟩) hHeld ?_
    rotate_left
    · intro w' hSw; try dsimp only at hSw
      have d0 := ((bt hb0 hSw).cell (p := ⟨gb, ob, none⟩) hlt').trans e0
      have d1 := ((bt hb0 hSw).cell (p := ⟨gb, ob + 1, none⟩) hlt').trans e1
      go_simp; try (with_reducible rfl)
    try simp only [Act.put, List.getElem_toArray, List.getElem_cons_succ, List.getElem_cons_zero, List.setIfInBounds_toArray, List.set_cons_zero, List.set_cons_succ]
    refine wpAnyH_take (i := 7) (v := ?_) rfl (by kernel_rfl) (by kernel_rfl) (by kernel_rfl) (fun _ _ _ h => h) (Or.inl ⟨by rfl, ?_⟩) hHeld ?_
    rotate_left
    · intro w' hSw; try dsimp only at hSw
      go_simp; try (with_reducible rfl)
    try simp only [Act.put, List.getElem_toArray, List.getElem_cons_succ, List.getElem_cons_zero, List.setIfInBounds_toArray, List.set_cons_zero, List.set_cons_succ]
    refine wpAnyH_take (i := 8) (v := ?_) rfl (by kernel_rfl) (by kernel_rfl) (by kernel_rfl) (fun _ _ _ h => h) (Or.inl ⟨by rfl, ?_⟩) hHeld ?_
    rotate_left
    · intro w' hSw; try dsimp only at hSw
      go_simp; try (with_reducible rfl)
    try simp only [Act.put, List.getElem_toArray, List.getElem_cons_succ, List.getElem_cons_zero, List.setIfInBounds_toArray, List.set_cons_zero, List.set_cons_succ]
    refine wpAnyH_take (i := 9) (v := ?_) rfl (by kernel_rfl) (by kernel_rfl) (by kernel_rfl) (fun _ _ _ h => h) (Or.inl ⟨by rfl, ?_⟩) hHeld ?_
    rotate_left
    · intro w' hSw; try dsimp only at hSw
      go_simp; try (with_reducible rfl)
    try simp only [Act.put, List.getElem_toArray, List.getElem_cons_succ, List.getElem_cons_zero, List.setIfInBounds_toArray, List.set_cons_zero, List.set_cons_succ]
    refine wpAnyH_ready (rs := [10, 12]) (by kernel_rfl) (by simp) ?_
    refine AllReadyH.cons rfl (fun K hK => ?_) ?_
    · go_simp
      refine (nG _ (hb.below (bt hb0 hHeld))).mono ?_
      rintro e y1 ⟨rfl, hy1⟩
      have hy2 := hy1.symm
      subst hy2
      clear hy1
      try go_wp2_with fail
      refine hK.out _ _ hHeld (fun hHeld => ?_)
      clear hK K
      try simp only [Act.put, List.getElem_toArray, List.getElem_cons_succ, List.getElem_cons_zero, List.setIfInBounds_toArray, List.set_cons_zero, List.set_cons_succ]
      refine wpAnyH_take (i := 11) (v := ?_) rfl (by kernel_rfl) (by kernel_rfl) (by kernel_rfl) (fun _ _ _ h => h) (Or.inl ⟨by rfl, ?_⟩) hHeld ?_
      rotate_left
      · intro w' hSw; try dsimp only at hSw
        go_simp; try (with_reducible rfl)
      try simp only [Act.put, List.getElem_toArray, List.getElem_cons_succ, List.getElem_cons_zero, List.setIfInBounds_toArray, List.set_cons_zero, List.set_cons_succ]
      refine wpAnyH_ready (rs := [12]) (by kernel_rfl) (by simp) ?_
      refine AllReadyH.cons rfl (fun K hK => ?_) AllReadyH.nil
      go_simp
      refine hK.out _ _ (bt hHeld (below_alloc _ _)) (fun hHeld => ?_)
      clear hK K
      try simp only [Act.put, List.getElem_toArray, List.getElem_cons_succ, List.getElem_cons_zero, List.setIfInBounds_toArray, List.set_cons_zero, List.set_cons_succ]
      refine wpAnyH_ready (rs := [13]) (by kernel_rfl) (by simp) ?_
      refine AllReadyH.cons rfl (fun K hK => ?_) AllReadyH.nil
      rw [if_pos (by rfl)]
      refine wp_store_blk 42 (.tmp 4) _ rfl W.heap.size 0 [.int .i64 K0, .int .i64 K4, .int .i64 K1, .int .i64 0, .slice none 0 0, .slice none 0 0, .slice none 0 0] rfl rfl (Blk.drew (Blk.new' W 42 #[.int .i64 0, .int .i64 0, .int .i64 0, .int .i64 0, .slice none 0 0, .slice none 0 0, .slice none 0 0])) (by show 7 ≤ 7; decide) (mpSize PV.zero MP.zero) (mpOne PV.zero ⟨K0, K4, K1, 0, [], [], []⟩) ?_
      intro w9 h9 ht9
      refine hK.out _ _ (ht9.below hHeld (Nat.le_refl _)) (fun hHeld => ?_)
      clear hK K
      try simp only [Act.put, List.getElem_toArray, List.getElem_cons_succ, List.getElem_cons_zero, List.setIfInBounds_toArray, List.set_cons_zero, List.set_cons_succ]
      refine wpAnyH_done (by kernel_rfl) ?_ _
      refine NoPanic.normal ?_
      go_wp2_with fail
      go_meet
      case rel => exact ⟨rfl, h9, hHeld⟩
    refine AllReadyH.cons rfl (fun K hK => ?_) AllReadyH.nil
    go_simp
    refine hK.out _ _ (bt hHeld (below_alloc _ _)) (fun hHeld => ?_)
    clear hK K
    try simp only [Act.put, List.getElem_toArray, List.getElem_cons_succ, List.getElem_cons_zero, List.setIfInBounds_toArray, List.set_cons_zero, List.set_cons_succ]
    refine wpAnyH_ready (rs := [10]) (by kernel_rfl) (by simp) ?_
    refine AllReadyH.cons rfl (fun K hK => ?_) AllReadyH.nil
    go_simp
    refine (nG _ (hb.below (bt hb0 hHeld))).mono ?_
    rintro e y1 ⟨rfl, hy1⟩
    have hy2 := hy1.symm
    subst hy2
    clear hy1
    try go_wp2_with fail
    refine hK.out _ _ hHeld (fun hHeld => ?_)
    clear hK K
    try simp only [Act.put, List.getElem_toArray, List.getElem_cons_succ, List.getElem_cons_zero, List.setIfInBounds_toArray, List.set_cons_zero, List.set_cons_succ]
    refine wpAnyH_take (i := 11) (v := ?_) rfl (by kernel_rfl) (by kernel_rfl) (by kernel_rfl) (fun _ _ _ h => h) (Or.inl ⟨by rfl, ?_⟩) hHeld ?_
    rotate_left
    · intro w' hSw; try dsimp only at hSw
      go_simp; try (with_reducible rfl)
    try simp only [Act.put, List.getElem_toArray, List.getElem_cons_succ, List.getElem_cons_zero, List.setIfInBounds_toArray, List.set_cons_zero, List.set_cons_succ]
    refine wpAnyH_ready (rs := [13]) (by kernel_rfl) (by simp) ?_
    refine AllReadyH.cons rfl (fun K hK => ?_) AllReadyH.nil
    rw [if_pos (by rfl)]
    refine wp_store_blk 42 (.tmp 4) _ rfl W.heap.size 0 [.int .i64 K0, .int .i64 K4, .int .i64 K1, .int .i64 0, .slice none 0 0, .slice none 0 0, .slice none 0 0] rfl rfl (Blk.drew (Blk.new' W 42 #[.int .i64 0, .int .i64 0, .int .i64 0, .int .i64 0, .slice none 0 0, .slice none 0 0, .slice none 0 0])) (by show 7 ≤ 7; decide) (mpSize PV.zero MP.zero) (mpOne PV.zero ⟨K0, K4, K1, 0, [], [], []⟩) ?_
    intro w9 h9 ht9
    refine hK.out _ _ (ht9.below hHeld (Nat.le_refl _)) (fun hHeld => ?_)
    clear hK K
    try simp only [Act.put, List.getElem_toArray, List.getElem_cons_succ, List.getElem_cons_zero, List.setIfInBounds_toArray, List.set_cons_zero, List.set_cons_succ]
    refine wpAnyH_done (by kernel_rfl) ?_ _
    refine NoPanic.normal ?_
    go_wp2_with fail
    go_meet
    case rel => exact ⟨rfl, h9, hHeld⟩
  case rest =>
    obtain ⟨rfl, hbq, hbw⟩ := hcut
    have hrr2 := hrr.kept hbw
    have hBr : Below w.heap.size w wc := bt hb0 hbw
    have hgq : w.heap.size < W.heap.size := hlW
    clear hrr hbw hb0 hlW hs8 nG hw0 hv0 hw1 hv1 hk00 hk11 e0 e1
    have hrr := hrr2
    clear hrr2
    generalize W.heap.size = gq at *
    obtain ⟨x0, x1, x2, x3, x4, x5, x6⟩ : _ ∧ _ ∧ _ ∧ _ ∧ _ ∧ _ ∧ _ := Blk.cells7 (V := PV.zero) (P := ⟨K0, K4, K1, 0, [], [], []⟩) hbq
    have e2w := (hBr.cell (p := ⟨gb, ob + 2, none⟩) hlt').trans e2
    obtain ⟨Vq, HVQ⟩ : ∃ Vq, Hid (Vq = PV.zero) := ⟨_, rfl⟩
    have hbq2 : Blk wc gq 42 (Vq.cells Q) := by rw [HVQ.out, HRD.out]; exact hbq
    have hoq : OwnP w.heap.size wc Vq Q := by rw [HVQ.out, HRD.out]; exact ⟨⟨rfl, .inl ⟨rfl, rfl⟩⟩, ⟨rfl, .inl ⟨rfl, rfl⟩⟩, ⟨rfl, .inl ⟨rfl, rfl⟩⟩, Nat.zero_le _, Nat.zero_le _, Nat.zero_le _⟩
    clear HRD HVQ
    by_cases hk : K0 = 1
    · have bk1 : (K0 == 1) = true := by simpa using hk
      have bk2 : (K0 == 2) = false := by rw [hk]; rfl
      have bm : ¬ ((m : Int) ≤ 64) := fun h => hk1 ⟨hk, Int.ofNat_le.1 h⟩
      clear hk hk1 hk2
      go_upto_region 18 with (fail)
      clear x0 x1 x2 x3 x4 x5 x6 hbq
      have hbq := hbq2
      clear hbq2
      cases hok : okMP Q with
      | false =>
        have hr := HR.out.trans (if_neg (fun h => by rw [hok] at h; cases h.1))
        have HOK : Hid (okMP Q = false) := hok
        clear HR hok
        subst hr
        obtain ⟨x0, x1, x2, x3, x4, x5, x6⟩ := hbq.cells7
        have HY := fun V X (h : InP X V Q) => rbytes_any V Q X h
        rw [bytesR_no HOK.out] at HY
        go_wp2_with (first
          | (go_at_call 35; refine (HY Vq _ hoq.inP).mono ?_; rintro e w2 ⟨p2, n2, c2, rfl, hin2, hb2⟩; dsimp only; have r2 := hrr.kept hb2)
          | (guard_target = wpList _ _ _ (Oper.mk _ (Op.store 42 (Operand.tmp 2) (Operand.tmp 126)) _ _ _ _ :: _) _ _; refine wpList_store_blk rfl 42 (.tmp 2) (.tmp 126) rfl _ _ (PV.cells PV.zero MP.zero) rfl rfl r2 (by show 7 ≤ 7; decide) (mpSize PV.zero MP.zero) (mpOne PV.zero MP.zero) ?_; intro w9 h9 ht9))
        have h9' : Blk w9 w.heap.size 42 (PV.zero.cells MP.zero) := h9
        refine ret_mpE Try.results37 rfl h9' rfl rfl ?_
        exact ⟨PV.zero, rfl, ownP_zero _ _, ht9.below (bt hBr hb2) (Nat.le_refl _)⟩
      | true =>
        by_cases heq : writeL Q = xs
        · have hr := HR.out.trans (if_pos ⟨hok, heq⟩)
          have HOK : Hid (okMP Q = true) := hok
          have HEQ : Hid ((writeL Q == xs) = true) := by show _ = _; rw [heq]; exact beq_self_eq_true _
          clear HR hok heq
          subst hr
          obtain ⟨x0, x1, x2, x3, x4, x5, x6⟩ := hbq.cells7
          have HY := fun V X (h : InP X V Q) => rbytes_any V Q X h
          rw [bytesR_ok HOK.out] at HY
          have HYB : Hid (∀ x ∈ writeL Q, x < 256) := writeL_byte Q
          generalize writeL Q = Yq at *
          have hse : ((strOfNums (Yq.map fun x : Nat => (x : Int))).toList == (strOfNums (xs.map fun x : Nat => (x : Int))).toList) = true := by rw [str_eq HYB.out hb.byte]; exact HEQ.out
          have cv1 := fun X p n c (h : In X p n c Yq) => conv_in h
          have cv2 := fun X (h : In X (some ⟨gb, ob, none⟩) 256 c xs) => conv_in h
          generalize strOfNums (Yq.map fun x : Nat => (x : Int)) = s1 at *
          generalize strOfNums (xs.map fun x : Nat => (x : Int)) = s2 at *
          have hsn : (s1.toList != s2.toList) = false := by simp only [bne, hse]; rfl
          go_wp2_with (first
            | (go_at_call 35; refine (HY Vq _ hoq.inP).mono ?_; rintro e w2 ⟨p2, n2, c2, rfl, hin2, hb2⟩; dsimp only at hin2 ⊢; have r2 := hrr.kept hb2; have hB2 := bt hBr hb2; have e1 := cv1 _ _ _ _ hin2; have e2 := cv2 _ (hb.below hB2); have hoq2 := hoq.next hb2; have hbq2 := hbq.kept hb2; obtain ⟨x0, x1, x2, x3, x4, x5, x6⟩ := hbq2.cells7)
            | (guard_target = wpList _ _ _ (Oper.mk _ (Op.store 42 (Operand.tmp 2) (Operand.tmp 127)) _ _ _ _ :: _) _ _; refine wpList_store_blk rfl 42 (.tmp 2) (.tmp 127) rfl _ _ (PV.cells Vq Q) rfl rfl r2 (by show 7 ≤ 7; decide) (mpSize Vq Q) (mpOne Vq Q) ?_; intro w9 h9 ht9))
          have h9' : Blk w9 w.heap.size 42 (Vq.cells Q) := h9
          refine ret_mpE Try.results37 rfl h9' rfl rfl ?_
          exact ⟨Vq, rfl, hoq2.turned ht9 r2 (by decide) (by decide) (by decide), ht9.below hB2 (Nat.le_refl _)⟩
        · have hr := HR.out.trans (if_neg (fun h => heq h.2))
          have HOK : Hid (okMP Q = true) := hok
          have HEQ : Hid ((writeL Q == xs) = false) := by show _ = _; exact beq_eq_false_iff_ne.2 heq
          clear HR hok heq
          subst hr
          obtain ⟨x0, x1, x2, x3, x4, x5, x6⟩ := hbq.cells7
          have HY := fun V X (h : InP X V Q) => rbytes_any V Q X h
          rw [bytesR_ok HOK.out] at HY
          have HYB : Hid (∀ x ∈ writeL Q, x < 256) := writeL_byte Q
          generalize writeL Q = Yq at *
          have hse : ((strOfNums (Yq.map fun x : Nat => (x : Int))).toList == (strOfNums (xs.map fun x : Nat => (x : Int))).toList) = false := by rw [str_eq HYB.out hb.byte]; exact HEQ.out
          have cv1 := fun X p n c (h : In X p n c Yq) => conv_in h
          have cv2 := fun X (h : In X (some ⟨gb, ob, none⟩) 256 c xs) => conv_in h
          generalize strOfNums (Yq.map fun x : Nat => (x : Int)) = s1 at *
          generalize strOfNums (xs.map fun x : Nat => (x : Int)) = s2 at *
          have hsn : (s1.toList != s2.toList) = true := by simp only [bne, hse]; rfl
          go_wp2_with (first
            | (go_at_call 35; refine (HY Vq _ hoq.inP).mono ?_; rintro e w2 ⟨p2, n2, c2, rfl, hin2, hb2⟩; dsimp only at hin2 ⊢; have r2 := hrr.kept hb2; have hB2 := bt hBr hb2; have e1 := cv1 _ _ _ _ hin2; have e2 := cv2 _ (hb.below hB2); have hoq2 := hoq.next hb2; have hbq2 := hbq.kept hb2; obtain ⟨x0, x1, x2, x3, x4, x5, x6⟩ := hbq2.cells7)
            | (guard_target = wpList _ _ _ (Oper.mk _ (Op.store 42 (Operand.tmp 2) (Operand.tmp 126)) _ _ _ _ :: _) _ _; refine wpList_store_blk rfl 42 (.tmp 2) (.tmp 126) rfl _ _ (PV.cells PV.zero MP.zero) rfl rfl r2 (by show 7 ≤ 7; decide) (mpSize PV.zero MP.zero) (mpOne PV.zero MP.zero) ?_; intro w9 h9 ht9))
          have h9' : Blk w9 w.heap.size 42 (PV.zero.cells MP.zero) := h9
          refine ret_mpE Try.results37 rfl h9' rfl rfl ?_
          exact ⟨PV.zero, rfl, ownP_zero _ _, ht9.below hB2 (Nat.le_refl _)⟩
    · have bk1 : (K0 == 1) = false := by simpa using hk
      by_cases hk' : K0 = 2
      · have bk2 : (K0 == 2) = true := by simpa using hk'
        have bm : ¬ ((m : Int) ≤ 24) := fun h => hk2 ⟨hk', Int.ofNat_le.1 h⟩
        clear hk hk' hk1 hk2
        go_upto_region 18 with (fail)
        clear x0 x1 x2 x3 x4 x5 x6 hbq
        have hbq := hbq2
        clear hbq2
        cases hok : okMP Q with
        | false =>
          have hr := HR.out.trans (if_neg (fun h => by rw [hok] at h; cases h.1))
          have HOK : Hid (okMP Q = false) := hok
          clear HR hok
          subst hr
          obtain ⟨x0, x1, x2, x3, x4, x5, x6⟩ := hbq.cells7
          have HY := fun V X (h : InP X V Q) => rbytes_any V Q X h
          rw [bytesR_no HOK.out] at HY
          go_wp2_with (first
            | (go_at_call 35; refine (HY Vq _ hoq.inP).mono ?_; rintro e w2 ⟨p2, n2, c2, rfl, hin2, hb2⟩; dsimp only; have r2 := hrr.kept hb2)
            | (guard_target = wpList _ _ _ (Oper.mk _ (Op.store 42 (Operand.tmp 2) (Operand.tmp 126)) _ _ _ _ :: _) _ _; refine wpList_store_blk rfl 42 (.tmp 2) (.tmp 126) rfl _ _ (PV.cells PV.zero MP.zero) rfl rfl r2 (by show 7 ≤ 7; decide) (mpSize PV.zero MP.zero) (mpOne PV.zero MP.zero) ?_; intro w9 h9 ht9))
          have h9' : Blk w9 w.heap.size 42 (PV.zero.cells MP.zero) := h9
          refine ret_mpE Try.results37 rfl h9' rfl rfl ?_
          exact ⟨PV.zero, rfl, ownP_zero _ _, ht9.below (bt hBr hb2) (Nat.le_refl _)⟩
        | true =>
          by_cases heq : writeL Q = xs
          · have hr := HR.out.trans (if_pos ⟨hok, heq⟩)
            have HOK : Hid (okMP Q = true) := hok
            have HEQ : Hid ((writeL Q == xs) = true) := by show _ = _; rw [heq]; exact beq_self_eq_true _
            clear HR hok heq
            subst hr
            obtain ⟨x0, x1, x2, x3, x4, x5, x6⟩ := hbq.cells7
            have HY := fun V X (h : InP X V Q) => rbytes_any V Q X h
            rw [bytesR_ok HOK.out] at HY
            have HYB : Hid (∀ x ∈ writeL Q, x < 256) := writeL_byte Q
            generalize writeL Q = Yq at *
            have hse : ((strOfNums (Yq.map fun x : Nat => (x : Int))).toList == (strOfNums (xs.map fun x : Nat => (x : Int))).toList) = true := by rw [str_eq HYB.out hb.byte]; exact HEQ.out
            have cv1 := fun X p n c (h : In X p n c Yq) => conv_in h
            have cv2 := fun X (h : In X (some ⟨gb, ob, none⟩) 256 c xs) => conv_in h
            generalize strOfNums (Yq.map fun x : Nat => (x : Int)) = s1 at *
            generalize strOfNums (xs.map fun x : Nat => (x : Int)) = s2 at *
            have hsn : (s1.toList != s2.toList) = false := by simp only [bne, hse]; rfl
            go_wp2_with (first
              | (go_at_call 35; refine (HY Vq _ hoq.inP).mono ?_; rintro e w2 ⟨p2, n2, c2, rfl, hin2, hb2⟩; dsimp only at hin2 ⊢; have r2 := hrr.kept hb2; have hB2 := bt hBr hb2; have e1 := cv1 _ _ _ _ hin2; have e2 := cv2 _ (hb.below hB2); have hoq2 := hoq.next hb2; have hbq2 := hbq.kept hb2; obtain ⟨x0, x1, x2, x3, x4, x5, x6⟩ := hbq2.cells7)
              | (guard_target = wpList _ _ _ (Oper.mk _ (Op.store 42 (Operand.tmp 2) (Operand.tmp 127)) _ _ _ _ :: _) _ _; refine wpList_store_blk rfl 42 (.tmp 2) (.tmp 127) rfl _ _ (PV.cells Vq Q) rfl rfl r2 (by show 7 ≤ 7; decide) (mpSize Vq Q) (mpOne Vq Q) ?_; intro w9 h9 ht9))
            have h9' : Blk w9 w.heap.size 42 (Vq.cells Q) := h9
            refine ret_mpE Try.results37 rfl h9' rfl rfl ?_
            exact ⟨Vq, rfl, hoq2.turned ht9 r2 (by decide) (by decide) (by decide), ht9.below hB2 (Nat.le_refl _)⟩
          · have hr := HR.out.trans (if_neg (fun h => heq h.2))
            have HOK : Hid (okMP Q = true) := hok
            have HEQ : Hid ((writeL Q == xs) = false) := by show _ = _; exact beq_eq_false_iff_ne.2 heq
            clear HR hok heq
            subst hr
            obtain ⟨x0, x1, x2, x3, x4, x5, x6⟩ := hbq.cells7
            have HY := fun V X (h : InP X V Q) => rbytes_any V Q X h
            rw [bytesR_ok HOK.out] at HY
            have HYB : Hid (∀ x ∈ writeL Q, x < 256) := writeL_byte Q
            generalize writeL Q = Yq at *
            have hse : ((strOfNums (Yq.map fun x : Nat => (x : Int))).toList == (strOfNums (xs.map fun x : Nat => (x : Int))).toList) = false := by rw [str_eq HYB.out hb.byte]; exact HEQ.out
            have cv1 := fun X p n c (h : In X p n c Yq) => conv_in h
            have cv2 := fun X (h : In X (some ⟨gb, ob, none⟩) 256 c xs) => conv_in h
            generalize strOfNums (Yq.map fun x : Nat => (x : Int)) = s1 at *
            generalize strOfNums (xs.map fun x : Nat => (x : Int)) = s2 at *
            have hsn : (s1.toList != s2.toList) = true := by simp only [bne, hse]; rfl
            go_wp2_with (first
              | (go_at_call 35; refine (HY Vq _ hoq.inP).mono ?_; rintro e w2 ⟨p2, n2, c2, rfl, hin2, hb2⟩; dsimp only at hin2 ⊢; have r2 := hrr.kept hb2; have hB2 := bt hBr hb2; have e1 := cv1 _ _ _ _ hin2; have e2 := cv2 _ (hb.below hB2); have hoq2 := hoq.next hb2; have hbq2 := hbq.kept hb2; obtain ⟨x0, x1, x2, x3, x4, x5, x6⟩ := hbq2.cells7)
              | (guard_target = wpList _ _ _ (Oper.mk _ (Op.store 42 (Operand.tmp 2) (Operand.tmp 126)) _ _ _ _ :: _) _ _; refine wpList_store_blk rfl 42 (.tmp 2) (.tmp 126) rfl _ _ (PV.cells PV.zero MP.zero) rfl rfl r2 (by show 7 ≤ 7; decide) (mpSize PV.zero MP.zero) (mpOne PV.zero MP.zero) ?_; intro w9 h9 ht9))
            have h9' : Blk w9 w.heap.size 42 (PV.zero.cells MP.zero) := h9
            refine ret_mpE Try.results37 rfl h9' rfl rfl ?_
            exact ⟨PV.zero, rfl, ownP_zero _ _, ht9.below hB2 (Nat.le_refl _)⟩
      · have bk2 : (K0 == 2) = false := by simpa using hk'
        clear hk hk' hk1 hk2
        go_upto_region 18 with (fail)
        clear x0 x1 x2 x3 x4 x5 x6 hbq
        have hbq := hbq2
        clear hbq2
        cases hok : okMP Q with
        | false =>
          have hr := HR.out.trans (if_neg (fun h => by rw [hok] at h; cases h.1))
          have HOK : Hid (okMP Q = false) := hok
          clear HR hok
          subst hr
          obtain ⟨x0, x1, x2, x3, x4, x5, x6⟩ := hbq.cells7
          have HY := fun V X (h : InP X V Q) => rbytes_any V Q X h
          rw [bytesR_no HOK.out] at HY
          go_wp2_with (first
            | (go_at_call 35; refine (HY Vq _ hoq.inP).mono ?_; rintro e w2 ⟨p2, n2, c2, rfl, hin2, hb2⟩; dsimp only; have r2 := hrr.kept hb2)
            | (guard_target = wpList _ _ _ (Oper.mk _ (Op.store 42 (Operand.tmp 2) (Operand.tmp 126)) _ _ _ _ :: _) _ _; refine wpList_store_blk rfl 42 (.tmp 2) (.tmp 126) rfl _ _ (PV.cells PV.zero MP.zero) rfl rfl r2 (by show 7 ≤ 7; decide) (mpSize PV.zero MP.zero) (mpOne PV.zero MP.zero) ?_; intro w9 h9 ht9))
          have h9' : Blk w9 w.heap.size 42 (PV.zero.cells MP.zero) := h9
          refine ret_mpE Try.results37 rfl h9' rfl rfl ?_
          exact ⟨PV.zero, rfl, ownP_zero _ _, ht9.below (bt hBr hb2) (Nat.le_refl _)⟩
        | true =>
          by_cases heq : writeL Q = xs
          · have hr := HR.out.trans (if_pos ⟨hok, heq⟩)
            have HOK : Hid (okMP Q = true) := hok
            have HEQ : Hid ((writeL Q == xs) = true) := by show _ = _; rw [heq]; exact beq_self_eq_true _
            clear HR hok heq
            subst hr
            obtain ⟨x0, x1, x2, x3, x4, x5, x6⟩ := hbq.cells7
            have HY := fun V X (h : InP X V Q) => rbytes_any V Q X h
            rw [bytesR_ok HOK.out] at HY
            have HYB : Hid (∀ x ∈ writeL Q, x < 256) := writeL_byte Q
            generalize writeL Q = Yq at *
            have hse : ((strOfNums (Yq.map fun x : Nat => (x : Int))).toList == (strOfNums (xs.map fun x : Nat => (x : Int))).toList) = true := by rw [str_eq HYB.out hb.byte]; exact HEQ.out
            have cv1 := fun X p n c (h : In X p n c Yq) => conv_in h
            have cv2 := fun X (h : In X (some ⟨gb, ob, none⟩) 256 c xs) => conv_in h
            generalize strOfNums (Yq.map fun x : Nat => (x : Int)) = s1 at *
            generalize strOfNums (xs.map fun x : Nat => (x : Int)) = s2 at *
            have hsn : (s1.toList != s2.toList) = false := by simp only [bne, hse]; rfl
            go_wp2_with (first
              | (go_at_call 35; refine (HY Vq _ hoq.inP).mono ?_; rintro e w2 ⟨p2, n2, c2, rfl, hin2, hb2⟩; dsimp only at hin2 ⊢; have r2 := hrr.kept hb2; have hB2 := bt hBr hb2; have e1 := cv1 _ _ _ _ hin2; have e2 := cv2 _ (hb.below hB2); have hoq2 := hoq.next hb2; have hbq2 := hbq.kept hb2; obtain ⟨x0, x1, x2, x3, x4, x5, x6⟩ := hbq2.cells7)
              | (guard_target = wpList _ _ _ (Oper.mk _ (Op.store 42 (Operand.tmp 2) (Operand.tmp 127)) _ _ _ _ :: _) _ _; refine wpList_store_blk rfl 42 (.tmp 2) (.tmp 127) rfl _ _ (PV.cells Vq Q) rfl rfl r2 (by show 7 ≤ 7; decide) (mpSize Vq Q) (mpOne Vq Q) ?_; intro w9 h9 ht9))
            have h9' : Blk w9 w.heap.size 42 (Vq.cells Q) := h9
            refine ret_mpE Try.results37 rfl h9' rfl rfl ?_
            exact ⟨Vq, rfl, hoq2.turned ht9 r2 (by decide) (by decide) (by decide), ht9.below hB2 (Nat.le_refl _)⟩
          · have hr := HR.out.trans (if_neg (fun h => heq h.2))
            have HOK : Hid (okMP Q = true) := hok
            have HEQ : Hid ((writeL Q == xs) = false) := by show _ = _; exact beq_eq_false_iff_ne.2 heq
            clear HR hok heq
            subst hr
            obtain ⟨x0, x1, x2, x3, x4, x5, x6⟩ := hbq.cells7
            have HY := fun V X (h : InP X V Q) => rbytes_any V Q X h
            rw [bytesR_ok HOK.out] at HY
            have HYB : Hid (∀ x ∈ writeL Q, x < 256) := writeL_byte Q
            generalize writeL Q = Yq at *
            have hse : ((strOfNums (Yq.map fun x : Nat => (x : Int))).toList == (strOfNums (xs.map fun x : Nat => (x : Int))).toList) = false := by rw [str_eq HYB.out hb.byte]; exact HEQ.out
            have cv1 := fun X p n c (h : In X p n c Yq) => conv_in h
            have cv2 := fun X (h : In X (some ⟨gb, ob, none⟩) 256 c xs) => conv_in h
            generalize strOfNums (Yq.map fun x : Nat => (x : Int)) = s1 at *
            generalize strOfNums (xs.map fun x : Nat => (x : Int)) = s2 at *
            have hsn : (s1.toList != s2.toList) = true := by simp only [bne, hse]; rfl
            go_wp2_with (first
              | (go_at_call 35; refine (HY Vq _ hoq.inP).mono ?_; rintro e w2 ⟨p2, n2, c2, rfl, hin2, hb2⟩; dsimp only at hin2 ⊢; have r2 := hrr.kept hb2; have hB2 := bt hBr hb2; have e1 := cv1 _ _ _ _ hin2; have e2 := cv2 _ (hb.below hB2); have hoq2 := hoq.next hb2; have hbq2 := hbq.kept hb2; obtain ⟨x0, x1, x2, x3, x4, x5, x6⟩ := hbq2.cells7)
              | (guard_target = wpList _ _ _ (Oper.mk _ (Op.store 42 (Operand.tmp 2) (Operand.tmp 126)) _ _ _ _ :: _) _ _; refine wpList_store_blk rfl 42 (.tmp 2) (.tmp 126) rfl _ _ (PV.cells PV.zero MP.zero) rfl rfl r2 (by show 7 ≤ 7; decide) (mpSize PV.zero MP.zero) (mpOne PV.zero MP.zero) ?_; intro w9 h9 ht9))
            have h9' : Blk w9 w.heap.size 42 (PV.zero.cells MP.zero) := h9
            refine ret_mpE Try.results37 rfl h9' rfl rfl ?_
            exact ⟨PV.zero, rfl, ownP_zero _ _, ht9.below hB2 (Nat.le_refl _)⟩
end Go.Proofs.Ytpikaagdiafieaa

namespace Go.Proofs.Ytpikaagdiafieaa
open Go.RowKit
theorem write2 {P : MP} (h : okMP P = true) : (writeL P).getD 2 0 = P.bad.length + P.recs.length := by
  rw [← ref_eq h]
  unfold refL bodyL
  split <;> rfl
theorem subL_byteC {xs : List Nat} (hx : ∀ x ∈ xs, x < 256) (a n : Nat) : ∀ x ∈ subL xs a n, x < 256 :=
  fun x h => hx x (List.mem_of_mem_drop (List.mem_of_mem_take h))
theorem sub_sub {xs : List Nat} {a n b m : Nat} (h : b + m ≤ n) : subL (subL xs a n) b m = subL xs (a + b) m := by
  apply List.ext_getElem?
  intro i
  rw [subL_at, subL_at, subL_at]
  by_cases hi : i < m
  · rw [if_pos hi, if_pos (by omega), if_pos hi, Nat.add_assoc]
  · rw [if_neg hi, if_neg hi]
theorem getD_byteC {xs : List Nat} (hx : ∀ x ∈ xs, x < 256) (i : Nat) : xs.getD i 0 < 256 := by
  have := el_range hx i
  unfold el at this
  omega
theorem wI_byte {xs : List Nat} (hx : ∀ x ∈ xs, x < 256) (i : Nat) : wI (xs.getD i 0) = ((xs.getD i 0 : Nat) : Int) := wI_small (by have := getD_byteC hx i; omega)
theorem hd_one {xs : List Nat} (hx : ∀ x ∈ xs, x < 256) {q : Nat} (hq : q < 16) : getN (subL xs 0 16) (8 * q) 8 = xs.getD q 0 := by
  rw [getN_one _ (subL_byteC hx 0 16) q, subL_getD hq, Nat.zero_add]
theorem hd0C {xs : List Nat} (hx : ∀ x ∈ xs, x < 256) : hd xs 0 = xs.getD 0 0 := hd_one hx (q := 0) (by decide)
theorem hd1C {xs : List Nat} (hx : ∀ x ∈ xs, x < 256) : hd xs 1 = xs.getD 1 0 := hd_one hx (q := 1) (by decide)
theorem hd2C {xs : List Nat} (hx : ∀ x ∈ xs, x < 256) : hd xs 2 = xs.getD 2 0 := hd_one hx (q := 2) (by decide)
theorem hd4C {xs : List Nat} (hx : ∀ x ∈ xs, x < 256) : hd xs 4 = numTo (subL xs 8 8) 8 := by
  refine (getN_bytes (subL xs 0 16) (subL_byteC hx 0 16) 8 8 8 (Nat.le_refl _)).trans ?_
  rw [sub_sub (by decide), Nat.zero_add]
theorem seqC {xs : List Nat} (hx : ∀ x ∈ xs, x < 256) : wI (fld [64] (subL xs 16 8) 0) = rseq xs := by
  have e : fld [64] (subL xs 16 8) 0 = numTo (subL xs 16 8) 8 := by
    refine (getN_bytes (subL xs 16 8) (subL_byteC hx 16 8) 0 8 8 (Nat.le_refl _)).trans ?_
    rw [sub_sub (by decide), Nat.add_zero]
  rw [e]; rfl
theorem boolsC (xs : List Nat) {m : Nat} (hm : m ≤ 64) : boolsL (subL xs 24 8) m = (List.range m).map (rbad xs) := by
  unfold boolsL
  apply List.map_congr_left
  intro i hi
  have := List.mem_range.1 hi
  rw [subL_getD (by omega)]
  rfl
theorem wearsC {xs : List Nat} (hx : ∀ x ∈ xs, x < 256) (m : Nat) : intsL (valsTo (List.replicate m 24) (subL xs 32 (3 * m)) m) = (List.range m).map (rwear xs) := by
  unfold intsL valsTo
  rw [List.map_map, List.length_replicate]
  apply List.map_congr_left
  intro i hi
  have hi' := List.mem_range.1 hi
  have e : getN (subL xs 32 (3 * m)) (atW (List.replicate m 24) i) (eI (List.replicate m 24) i).toNat = numTo (subL xs (32 + 3 * i) 3) 3 := by
    rw [at_rep (by omega), eI_rep hi']
    refine (getN_bytes _ (subL_byteC hx _ _) (3 * i) 3 3 (Nat.le_refl _)).trans ?_
    rw [sub_sub (by omega)]
  show ((if i < m then _ else 0 : Nat) : Int) = _
  rw [if_pos hi', e]
  have hl : numTo (subL xs (32 + 3 * i) 3) 3 < 16777216 := numTo_lt (subL_byteC hx _ _) 3
  exact (wI_small (by omega)).symm
theorem recC {xs : List Nat} (hx : ∀ x ∈ xs, x < 256) (i : Nat) : recAt xs i = rrec xs i := by
  have hy := subL_byteC hx (16 + 10 * i) 10
  have e0 : fld recW (subL xs (16 + 10 * i) 10) 0 = xs.getD (16 + 10 * i) 0 := (getN_one _ hy 0).trans (subL_getD (by decide))
  have e1 : fld recW (subL xs (16 + 10 * i) 10) 1 = xs.getD (16 + 10 * i + 1) 0 := (getN_one _ hy 1).trans (subL_getD (by decide))
  have e2 : fld recW (subL xs (16 + 10 * i) 10) 2 = numTo (subL xs (16 + 10 * i + 2) 8) 8 := by
    refine (getN_bytes _ hy 2 8 8 (Nat.le_refl _)).trans ?_
    rw [sub_sub (by decide)]
  unfold recAt rrec
  rw [e0, e1, e2, wI_byte hx, wI_byte hx]
theorem readC {xs : List Nat} (hx : ∀ x ∈ xs, x < 256) (h1 : rkind xs = 1 → rmany xs ≤ 64) (h2 : rkind xs = 2 → rmany xs ≤ 24) : rreadP xs = readP xs := by
  have k0 : wI (hd xs 0) = rkind xs := by rw [hd0C hx, wI_byte hx]; rfl
  have k1 : wI (hd xs 1) = rpart xs := by rw [hd1C hx, wI_byte hx]; rfl
  have k2 : hd xs 2 = rmany xs := hd2C hx
  have k4 : wI (hd xs 4) = rgen xs := by rw [hd4C hx]; rfl
  unfold rreadP readP
  rw [k0, k1, k2, k4]
  by_cases c1 : rkind xs = 1
  · have hm := h1 c1
    rw [if_pos ⟨c1, hm⟩, if_pos c1, Nat.min_eq_left hm]
    unfold readPartP
    rw [seqC hx, boolsC xs hm, wearsC hx]
  · rw [if_neg (fun h => c1 h.1), if_neg c1]
    by_cases c2 : rkind xs = 2
    · have hm := h2 c2
      rw [if_pos ⟨c2, hm⟩, if_pos c2, Nat.min_eq_left hm]
      unfold readRecsP recsL
      rw [show recAt xs = rrec xs from funext fun i => recC hx i]
    · rw [if_neg (fun h => c2 h.1), if_neg c2]
theorem readLen {xs : List Nat} (hx : ∀ x ∈ xs, x < 256) : (rkind xs = 1 → (readP xs).bad.length + (readP xs).recs.length = min (rmany xs) 64) ∧ (rkind xs = 2 → (readP xs).bad.length + (readP xs).recs.length = min (rmany xs) 24) := by
  have k0 : wI (hd xs 0) = rkind xs := by rw [hd0C hx, wI_byte hx]; rfl
  have k2 : hd xs 2 = rmany xs := hd2C hx
  unfold readP
  rw [k0, k2]
  constructor
  · intro c1
    rw [if_pos c1]
    show (boolsL _ _).length + 0 = _
    rw [boolsL_length, Nat.add_zero]
  · intro c2
    rw [if_neg (by omega), if_pos c2]
    show 0 + (recsL _ _).length = _
    rw [recsL_length, Nat.zero_add]
theorem parseC {xs : List Nat} (hx : ∀ x ∈ xs, x < 256) (hl : xs.length = 256) : (if okMP (rreadP xs) = true ∧ writeL (rreadP xs) = xs then (rreadP xs, 0) else (MP.zero, 62)) = parseR xs := by
  by_cases hs : (rkind xs = 1 → rmany xs ≤ 64) ∧ (rkind xs = 2 → rmany xs ≤ 24)
  · rw [readC hx hs.1 hs.2]
    by_cases h : okMP (readP xs) = true ∧ writeL (readP xs) = xs
    · rw [if_pos h, parseR_yes ⟨hl, h.1, h.2⟩]
    · rw [if_neg h, parseR_no (fun h' => h h'.2)]
  · have hc : (rkind xs = 1 ∧ 64 < rmany xs) ∨ (rkind xs = 2 ∧ 24 < rmany xs) := by omega
    have w2 : ∀ P : MP, okMP P = true → writeL P = xs → P.bad.length + P.recs.length = rmany xs := by
      intro P h1 h2
      have := write2 h1
      rw [h2] at this
      exact this.symm
    have hr : rreadP xs = ⟨rkind xs, rgen xs, rpart xs, 0, [], [], []⟩ := by
      unfold rreadP
      rw [if_neg (by omega), if_neg (by omega)]
    have n1 : ¬ (okMP (rreadP xs) = true ∧ writeL (rreadP xs) = xs) := by
      intro h
      have := w2 _ h.1 h.2
      rw [hr] at this
      have h0 : 0 = rmany xs := this
      omega
    have n2 : ¬ (okMP (readP xs) = true ∧ writeL (readP xs) = xs) := by
      intro h
      have := w2 _ h.1 h.2
      have hL := readLen hx
      rcases hc with ⟨c1, c2⟩ | ⟨c1, c2⟩
      · have := hL.1 c1; omega
      · have := hL.2 c1; omega
    rw [if_neg n1, parseR_no (fun h' => n2 h'.2)]
set_option linter.unusedSimpArgs false in
set_option maxRecDepth 100000 in
set_option maxHeartbeats 4000000 in
theorem rparse_any (p : Option Addr) (n c : Nat) (xs : List Nat) (w : World) (hb : In w p n c xs) : Calls Try.prog 37 #[.slice p n c] w (ResP w (parseR xs)) := by
  by_cases hn : n = 256
  · subst hn
    have hR := (parseC hb.byte hb.len).symm
    obtain ⟨gb, ob, rfl, _, _⟩ := hb.at' (by decide)
    by_cases h1 : rkind xs = 1 ∧ rmany xs ≤ 64
    · exact rparse_part gb ob c xs w hb h1.1 h1.2 _ hR
    · by_cases h2 : rkind xs = 2 ∧ rmany xs ≤ 24
      · exact rparse_recs gb ob c xs w hb h2.1 h2.2 _ hR
      · exact rparse_none gb ob c xs w hb h1 h2 _ hR
  · have r0 := Blk.new' w 42 #[.int .i64 0, .int .i64 0, .int .i64 0, .int .i64 0, .slice none 0 0, .slice none 0 0, .slice none 0 0]
    have hb0 := below_alloc w (.cells #[.int .i64 0, .int .i64 0, .int .i64 0, .int .i64 0, .slice none 0 0, .slice none 0 0, .slice none 0 0] 42)
    have E : Hid (parseR xs = (MP.zero, 62)) := parseR_no (fun h => hn (by rw [← hb.len]; exact h.1))
    have hne : ((n : Int) != 256) = true := by rw [bne_iff_ne]; omega
    clear hn
    go_enter Try.func37, Try.ntmps37
    go_wp2_with (guard_target = wpList _ _ _ (Oper.mk _ (Op.store 42 (Operand.tmp 2) (Operand.tmp 14)) _ _ _ _ :: _) _ _; refine wpList_store_blk rfl 42 (.tmp 2) (.tmp 14) rfl _ _ (PV.cells PV.zero MP.zero) rfl rfl r0 (by show 7 ≤ 7; decide) (mpSize PV.zero MP.zero) (mpOne PV.zero MP.zero) ?_; intro w9 h9 ht9)
    have h9' : Blk w9 w.heap.size 42 (PV.zero.cells MP.zero) := h9
    refine ret_mpE Try.results37 rfl h9' rfl rfl ?_
    rw [E.out]
    exact ⟨PV.zero, rfl, ownP_zero _ _, ht9.below hb0 (Nat.le_refl _)⟩
end Go.Proofs.Ytpikaagdiafieaa

namespace Go.Proofs.Ytpikaagdiafieaa
open Go.ChangeShapes Go.WideShapes Go.ChangeAt Go.RowKit
theorem bytes5C : Try.prog.bytesOf 5 = 1 := by kernel_rfl
theorem cells5C : Try.prog.cellsOf 5 = 1 := by kernel_rfl
theorem byte_of_wfC {n : Int} (h : (Lit.int .u8 n).wf = true) : 0 ≤ n ∧ n ≤ 255 := bounds_u8 h
theorem openedB {H : Type} {enc : TypeId × Value → H} {W : World} {a : Option Addr} {len cap : Nat} {d : DataW H} {p : List MemPlace} {ts : List TypeId} {ds : List (DataW H)} {j : Nat}
    (h : DataW.Trod enc Try.prog W 0 (fun _ => true) true 53 (.slice a len cap) d p) (hsz : (DataW.weightsEach Try.prog ts ds).all (· ≤ reachBytes) = true) (ht : ts[j]? = some 53) (hd : ds[j]? = some d) :
    ∃ xs, In W a len cap xs := by
  obtain ⟨fuel, hf⟩ := h
  rcases open_ints Try.underlying53 Try.underlying5 cells5C hf with ⟨hcs, _⟩ | ⟨x, l, c, zs, hcs, _, hl, hm, hz, hx, hcell, hwz⟩
  · simp [Value.cells] at hcs
    obtain ⟨rfl, rfl, rfl⟩ := hcs
    exact ⟨[], In.empty W⟩
  · simp [Value.cells] at hcs
    obtain ⟨rfl, rfl, rfl⟩ := hcs
    simp only [Prod.mk.injEq] at hx
    obtain ⟨hx1, hx2⟩ := hx
    rw [hx1] at hd
    have hs := sized_slice hsz ht hd Try.underlying53
    rw [bytes5C] at hs
    have hzl : zs.length = cap := by simpa using hz
    simp only [lits, List.length_map, List.length_take, List.length_drop, reachBytes, hzl] at hs
    refine ⟨(zs.take len).map Int.toNat, by rw [List.length_map, List.length_take]; omega, hl, hm, by omega, ?_, fun h0 => ?_, fun h => by simp at h⟩
    · intro y hy
      obtain ⟨z, hzm, rfl⟩ := List.mem_map.1 hy
      have := byte_of_wfC (hwz z (List.mem_of_mem_take hzm))
      omega
    · have hc0 := hcell 0 (by omega)
      obtain ⟨b, o, s⟩ := x
      have hsp : s = none := by simpa [Addr.add] using World.cell?_spot hc0
      subst hsp
      refine ⟨b, o, rfl, block_lt_of_cell hc0, fun i hi => ?_⟩
      have hci := hcell i (by omega)
      have hplain : (⟨b, o, none⟩ : Addr).add i = ⟨b, o + i, none⟩ := by unfold Addr.add; split <;> simp_all
      rw [hplain] at hci
      rw [hci]
      have hil : i < zs.length := by omega
      have hb := byte_of_wfC (hwz zs[i] (List.getElem_mem hil))
      have e : el ((zs.take len).map Int.toNat) i = zs.getD i 0 := by
        simp [el, hi, hil]
        omega
      rw [e]

set_option linter.unusedSimpArgs false in
set_option maxRecDepth 100000 in
set_option maxHeartbeats 8000000 in
theorem mapBytes_walk (U : PV) (P : MP) (p : Option Addr) (n c : Nat) (xs : List Nat) (w : World) (hP : InP w U P) (hb : In w p n c xs) :
    Calls Try.prog 6 #[U.val P, .slice p n c] w fun e w' => e = .returned (.bool true) ∧ Below w.heap.size w w' := by
  have hB := below_alloc w (.cells #[.int .i64 P.kind, .int .i64 P.gen, .int .i64 P.part, .int .i64 P.seq, .slice U.pb U.nb U.cb, .slice U.pw U.nw U.cw, .slice U.pr U.nr U.cr] 42)
  have bp : Blk _ _ _ (PV.cells U P) := Blk.new' w 42 #[.int .i64 P.kind, .int .i64 P.gen, .int .i64 P.part, .int .i64 P.seq, .slice U.pb U.nb U.cb, .slice U.pw U.nw U.cw, .slice U.pr U.nr U.cr]
  have s1 := fun W' h1 => bytes_any U P W' h1
  have t1 := fun W' h1 => rbytes_any U P W' h1
  generalize bytesR P = R1 at *
  obtain ⟨Y, E1⟩ := R1
  have s2 := fun W' h1 => parse_any p n c xs W' h1
  have t2 := fun W' h1 => rparse_any p n c xs W' h1
  generalize parseR xs = R2 at *
  obtain ⟨X, E2⟩ := R2
  have HX : Hid (sameP X X = true) := sameP_iff.2 rfl
  have HY : Hid ((Y == Y) = true) := beq_self_eq_true _
  have q0 : (E1 == E1) = true := by simp
  have q1 : (E2 == E2) = true := by simp
  obtain ⟨x0, x1, x2, x3, x4, x5, x6⟩ := bp.cells7
  go_enter Try.func6, Try.ntmps6
  go_upto_region 2 with (go_at_call 34; refine (s1 _ (hP.below hB)).mono ?_; rintro e u1 ⟨p1, n1, c1, rfl, i1, hbx⟩; dsimp only)
  dsimp only at i1
  clear x0 x1 x2 x3 x4 x5 x6 s1
  replace hB := bt hB hbx
  replace bp := bp.kept hbx
  clear hbx
  obtain ⟨x0, x1, x2, x3, x4, x5, x6⟩ := bp.cells7
  go_upto_region 3 with (go_at_call 35; refine (t1 _ (hP.below hB)).mono ?_; rintro e u2 ⟨p2, n2, c2, rfl, i2, hbx⟩; dsimp only)
  dsimp only at i2
  clear x0 x1 x2 x3 x4 x5 x6 t1
  replace hB := bt hB hbx
  replace i1 := i1.below hbx
  clear hbx bp
  go_upto_region 4 with (go_at_call 36; refine (s2 _ (hb.below hB)).mono ?_; rintro e u3 ⟨Vx, rfl, ho, hbx⟩; dsimp only)
  dsimp only at ho
  clear s2
  have hal := below_alloc u3 (.cells #[.int .i64 X.kind, .int .i64 X.gen, .int .i64 X.part, .int .i64 X.seq, .slice Vx.pb Vx.nb Vx.cb, .slice Vx.pw Vx.nw Vx.cw, .slice Vx.pr Vx.nr Vx.cr] 42)
  have bx : Blk (u3.alloc (.cells #[.int .i64 X.kind, .int .i64 X.gen, .int .i64 X.part, .int .i64 X.seq, .slice Vx.pb Vx.nb Vx.cb, .slice Vx.pw Vx.nw Vx.cw, .slice Vx.pr Vx.nr Vx.cr] 42)) u3.heap.size 42 (PV.cells Vx X) := Blk.new' u3 42 #[.int .i64 X.kind, .int .i64 X.gen, .int .i64 X.part, .int .i64 X.seq, .slice Vx.pb Vx.nb Vx.cb, .slice Vx.pw Vx.nw Vx.cw, .slice Vx.pr Vx.nr Vx.cr]
  have hbv := bt hbx hal
  replace hB := bt hB hbv
  replace i1 := i1.below hbv
  replace i2 := i2.below hbv
  have ox := ho.inP.below hal
  clear hbx hal hbv ho
  generalize hV1 : u3.alloc (.cells #[.int .i64 X.kind, .int .i64 X.gen, .int .i64 X.part, .int .i64 X.seq, .slice Vx.pb Vx.nb Vx.cb, .slice Vx.pw Vx.nw Vx.cw, .slice Vx.pr Vx.nr Vx.cr] 42) = v3 at *
  clear hV1
  generalize u3.heap.size = gx at *
  go_upto_region 5 with (go_at_call 37; refine (t2 _ (hb.below hB)).mono ?_; rintro e u4 ⟨Vy, rfl, ho, hbx⟩; dsimp only)
  dsimp only at ho
  clear t2
  have hal := below_alloc u4 (.cells #[.int .i64 X.kind, .int .i64 X.gen, .int .i64 X.part, .int .i64 X.seq, .slice Vy.pb Vy.nb Vy.cb, .slice Vy.pw Vy.nw Vy.cw, .slice Vy.pr Vy.nr Vy.cr] 42)
  have by' : Blk (u4.alloc (.cells #[.int .i64 X.kind, .int .i64 X.gen, .int .i64 X.part, .int .i64 X.seq, .slice Vy.pb Vy.nb Vy.cb, .slice Vy.pw Vy.nw Vy.cw, .slice Vy.pr Vy.nr Vy.cr] 42)) u4.heap.size 42 (PV.cells Vy X) := Blk.new' u4 42 #[.int .i64 X.kind, .int .i64 X.gen, .int .i64 X.part, .int .i64 X.seq, .slice Vy.pb Vy.nb Vy.cb, .slice Vy.pw Vy.nw Vy.cw, .slice Vy.pr Vy.nr Vy.cr]
  have hbv := bt hbx hal
  replace hB := bt hB hbv
  replace i1 := i1.below hbv
  replace i2 := i2.below hbv
  replace bx := bx.kept hbv
  replace ox := ox.below hbv
  have oy := ho.inP.below hal
  clear hbx hal hbv ho
  generalize hV1 : u4.alloc (.cells #[.int .i64 X.kind, .int .i64 X.gen, .int .i64 X.part, .int .i64 X.seq, .slice Vy.pb Vy.nb Vy.cb, .slice Vy.pw Vy.nw Vy.cw, .slice Vy.pr Vy.nr Vy.cr] 42) = v4 at *
  clear hV1
  generalize u4.heap.size = gy at *
  have e1 := fun W' h1 h2 => equal_any p1 p2 n1 c1 n2 c2 Y Y W' h1 h2
  rw [HY.out] at e1
  have e2 := fun W' h1 h2 => rsamePage_any Vx Vy X X W' h1 h2
  rw [HX.out] at e2
  go_wp2_with (first
    | (go_at_call 13; refine (begun_any _).mono ?_; rintro e f0 ⟨rfl, hbx⟩; have hB1 := bt hB hbx; have j1 := i1.below hbx; have j2 := i2.below hbx; have kx := bx.kept hbx; have ky := by'.kept hbx; have mx := ox.below hbx; have my := oy.below hbx; obtain ⟨x0, x1, x2, x3, x4, x5, x6⟩ := kx.cells7; obtain ⟨y0, y1, y2, y3, y4, y5, y6⟩ := ky.cells7)
    | (go_at_call 38; refine (e1 _ j1 j2).mono ?_; rintro e w3 ⟨rfl, hw3⟩; have hw4 := hw3.symm; subst hw4; clear hw3)
    | (go_at_call 30; refine (e2 _ mx my).mono ?_; rintro e f1 ⟨rfl, hbz⟩))
  go_ret
  exact ⟨rfl, bt hB1 hbz⟩
set_option maxRecDepth 100000 in
theorem mapBytes_lifted (os : Os) (started : os.Started) (H : Type) (enc : TypeId × Value → H) :
    ReturnsInHanded {} Try.checked os 6 .any (Rows.mapBytesSpec.pre6 enc Try.prog Try.f6 Rows.mapBytesRow.domain false) (Rows.mapBytesSpec.post enc Try.prog Try.f6 false true false false) := by
  refine returnsInHanded_of_change_sized (C := Try.checked) own started (by kernel_rfl) Try.func6
    (ChangeSpec.witness6 (enc := enc) (C := Try.checked) false ⟨#[], #[.agg #[.int .i64 0, .int .i64 0, .int .i64 0, .int .i64 0, .slice none 0 0, .slice none 0 0, .slice none 0 0], .slice none 0 0], []⟩ 8 (by kernel_rfl) (by kernel_rfl) (by kernel_rfl) (by kernel_rfl)) ?_
  intro W base args ds gs before hval0 hW hcnd hsz0 _
  have hval : ∀ (j : Nat) t v, Try.f6.params[j]? = some t → args[j]? = some v → Value.okWide Try.prog W .any base t v := hval0
  have hsz : (DataW.weightsEach Try.prog (Try.f6.params.toList ++ Rows.mapBytesSpec.plain.varTypes Try.prog) (ds ++ gs)).all (· ≤ reachBytes) = true := hsz0
  have hW' := hW
  obtain ⟨p, q, hA0, hV, rfl, hfz, hnd⟩ := hW
  have hA : DataW.TrodAll enc Try.prog W 0 (fun _ => true) true Try.f6.params.toList args.toList ds p := hA0
  rw [Try.params6] at hA hval hsz
  obtain ⟨v0, vs0, d0, ds0, p0, q0, hargs, rfl, rfl, h0, r0⟩ := trodAll_cons hA
  obtain ⟨v1, vs1, d1, ds1, p1, q1, rfl, rfl, rfl, h1, r1⟩ := trodAll_cons r0
  obtain ⟨rfl, rfl, rfl⟩ := trodAll_nil r1
  obtain rfl : args = #[v0, v1] := by cases args; simp_all
  obtain ⟨rfl, rfl⟩ := trodVars_none hV
  have lt0 : ∀ x ∈ p0, x.block < W.heap.size := by obtain ⟨m, hm⟩ := h0; exact DataW.trod_lt m _ _ _ hm
  obtain ⟨Vp, Pp, hv0, hr0⟩ := openPage (hval 0 42 v0 rfl rfl) h0 hsz (j := 0) rfl rfl
  subst hv0
  obtain ⟨a1, len1, cap1, rfl⟩ := okWide_slice Try.underlying53 (hval 1 53 v1 rfl rfl)
  have lt1 : ∀ x ∈ p1, x.block < W.heap.size := by obtain ⟨m, hm⟩ := h1; exact DataW.trod_lt m _ _ _ hm
  obtain ⟨xs, hr1⟩ := openedB h1 hsz (j := 1) rfl rfl
  clear hA0 hval0 hsz0
  refine (mapBytes_walk Vp Pp a1 len1 cap1 xs W hr0 hr1).mono fun e W' ⟨he, bel⟩ => ?_
  subst he
  exact ⟨_, rfl, _, _, _, [], _, [], hW', trodAll_mk1 (shut_bool Try.underlying4 _), (trodAll_cons_mk (Below.trod laidOut (by kernel_rfl) (of_decide_eq_true (by kernel_rfl)) h0 bel lt0) (trodAll_cons_mk (Below.trod laidOut (by kernel_rfl) (of_decide_eq_true (by kernel_rfl)) h1 bel lt1) trodAll_mk0)), rfl, bel.frame _, fun h => by cases h⟩
theorem mapBytes_holds : Rows.MapBytesSaid :=
  OpenClaim.holds_of_wide 6 Try.f6 rfl rfl rfl rfl rfl rfl rfl ⟨rfl, rfl, rfl, rfl, rfl⟩ rfl rfl rfl rfl rfl (by kernel_rfl) Try.func6 (by kernel_rfl)
    (of_decide_eq_true (by kernel_rfl)) (by unfold Func.isWrapper; first | (rw [if_pos (by decide +kernel)]; kernel_rfl) | (rw [if_neg (by decide +kernel)]; exact ⟨rfl, rfl⟩))
    (fun os started H enc _ => mapBytes_lifted os started H enc)
#print axioms mapBytes_holds
end Go.Proofs.Ytpikaagdiafieaa
