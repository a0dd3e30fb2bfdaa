/-
  How states and slices of records that came in are read: as what the walks ask for.
-/
import Derived.Test.YtpikaagdiafieabRows
import Derived.Test.YtpikaagdiafieabMjRec
import Derived.ProofKit
import Derived.OpenShut
import Derived.ShutString
import Derived.ChangeOld
import Derived.SizedLaws
import Derived.Lib.SmallJoins
import Derived.Deep.Grids
namespace Go.Proofs.Ytpikaagdiafieab
open Go.ChangeShapes Go.WideShapes Go.ChangeAt Go.RowKit Go.Joins
theorem own : ownKnob Try.prog.godebug = none := by kernel_rfl
theorem laidOut : laidOutB Try.prog = true := by kernel_rfl
theorem bytesOf3 : Try.prog.bytesOf 3 = 8 := by kernel_rfl
theorem bytesOf2 : Try.prog.bytesOf 2 = 8 := by kernel_rfl
theorem cellsOf3 : Try.prog.cellsOf 3 = 1 := by kernel_rfl
theorem cellsOf2 : Try.prog.cellsOf 2 = 1 := by kernel_rfl
theorem cellsOfS : Try.prog.cellsOf 26 = 3 := by kernel_rfl
theorem cellsOfR : Try.prog.cellsOf 60 = 3 := by kernel_rfl
theorem bytesOfR : Try.prog.bytesOf 60 = 24 := by kernel_rfl
theorem cellsOf4 : Try.prog.cellsOf 4 = 1 := by kernel_rfl
theorem bytesOf4 : Try.prog.bytesOf 4 = 1 := by kernel_rfl
/-- A slice of numbers of kind i64, by its reading and its weights. -/
theorem openI {H : Type} {enc : TypeId × Value → H} {W : World} {t e : TypeId} {fuel : Nat} {v : Value} {y : DataW H × List MemPlace} (ht : Try.prog.underlying t = some (.slice e)) (he : Try.prog.underlying e = some (.int .i64)) (hc1 : Try.prog.cellsOf e = 1) (hb : Try.prog.bytesOf e = 8)
    (hf : DataW.trod enc Try.prog W 0 (fun _ => true) true fuel t [v] = some y) (hs : ∀ n ∈ y.1.weights Try.prog t, n ≤ reachBytes) : ∃ p n c xs, v = .slice p n c ∧ InI W p n c xs := by
  rcases open_ints ht he hc1 hf with ⟨hcs, _⟩ | ⟨x, l, c, zs, hcs, _, hl, hm, hz, hx, hcell, hwz⟩
  · simp only [List.cons.injEq, and_true] at hcs
    subst hcs
    exact ⟨none, 0, 0, [], rfl, InI.empty W⟩
  · simp only [List.cons.injEq, and_true] at hcs
    subst hcs
    have hzl : zs.length = c := by simpa using hz
    subst hx
    have hw := hs (((zs.take l).length + (zs.drop l).length) * 8) (by simp [DataW.weights, ht, hb, lits])
    simp only [List.length_take, List.length_drop, reachBytes, hzl] at hw
    refine ⟨some x, l, c, zs.take l, rfl, by rw [List.length_take]; omega, hl, hm, by omega, fun h0 => ?_, fun h => by cases h⟩
    have hc0 := hcell 0 (by omega)
    obtain ⟨b, o, s⟩ := x
    have hsp : s = none := by simpa [Addr.add] using World.cell?_spot hc0
    subst hsp
    refine ⟨b, o, rfl, block_lt_of_cell hc0, fun i hi => ?_⟩
    have hci := hcell i (by omega)
    rw [addr_add] at hci
    rw [hci]
    have e' : eI (zs.take l) i = zs.getD i 0 := by simp [eI, List.getElem?_take_of_lt hi]
    rw [e']
theorem openBo {H : Type} {enc : TypeId × Value → H} {W : World} {t e : TypeId} {fuel : Nat} {v : Value} {y : DataW H × List MemPlace} (ht : Try.prog.underlying t = some (.slice e)) (he : Try.prog.underlying e = some .bool) (hc1 : Try.prog.cellsOf e = 1) (hb : Try.prog.bytesOf e = 1)
    (hf : DataW.trod enc Try.prog W 0 (fun _ => true) true fuel t [v] = some y) (hs : ∀ n ∈ y.1.weights Try.prog t, n ≤ reachBytes) : ∃ p n c xs, v = .slice p n c ∧ InB W p n c xs := by
  rcases Go.Deep.open_bools ht he hc1 hf with ⟨hcs, _⟩ | ⟨x, l, c, Bf, hcs, _, hl, hm, hx, hcell⟩
  · simp only [List.cons.injEq, and_true] at hcs
    subst hcs
    exact ⟨none, 0, 0, [], rfl, InB.empty W⟩
  · simp only [List.cons.injEq, and_true] at hcs
    subst hcs
    subst hx
    have hw := hs ((l + (c - l)) * 1) (by simp [DataW.weights, Go.Deep.boolRow, ht, hb])
    simp only [reachBytes] at hw
    refine ⟨some x, l, c, (List.range l).map Bf, rfl, by simp, hl, hm, by omega, fun h0 => ?_, fun h => by cases h⟩
    have hc0 := hcell 0 (by omega)
    obtain ⟨b, o, s⟩ := x
    have hsp : s = none := by simpa [Addr.add] using World.cell?_spot hc0
    subst hsp
    refine ⟨b, o, rfl, block_lt_of_cell hc0, fun i hi => ?_⟩
    have hci := hcell i (by omega)
    rw [addr_add] at hci
    rw [hci]
    have e' : eB ((List.range l).map Bf) i = Bf i := by simp [eB, hi]
    rw [e']
set_option maxRecDepth 100000 in
theorem openState {H : Type} {enc : TypeId × Value → H} {W : World} {r : Reach} {b0 : Nat} {v : Value} {d : DataW H} {p : List MemPlace} {ts : List TypeId} {ds : List (DataW H)} {j : Nat} (hv : Value.okWide Try.prog W r b0 26 v)
    (h : DataW.Trod enc Try.prog W 0 (fun _ => true) true 26 v d p) (hsz : (DataW.weightsEach Try.prog ts ds).all (· ≤ reachBytes) = true) (ht : ts[j]? = some 26) (hd : ds[j]? = some d) :
    ∃ V s, v = SV.val V s ∧ InS W V s := by
  obtain ⟨c0, c1, c2, y0, y1, y2, k, rfl, rfl, rfl, hy0, hy1, hy2⟩ := open_agg3 Try.underlying26 (by kernel_rfl) cellsOfS hv h
  have hall : ∀ n ∈ (DataW.agg [y0.1, y1.1, y2.1]).weights Try.prog 26, n ≤ reachBytes := fun n hn => by simpa using List.all_eq_true.1 hsz _ (DataW.weights_mem_each ht hd n hn)
  have hw0 : ∀ n ∈ y0.1.weights Try.prog 23, n ≤ reachBytes := fun n hn => hall n (by
    simp only [DataW.weights, Try.underlying26, List.map_cons, List.map_nil, DataW.weightsEach, List.mem_append]
    exact .inl hn)
  have hw1 : ∀ n ∈ y1.1.weights Try.prog 24, n ≤ reachBytes := fun n hn => hall n (by
    simp only [DataW.weights, Try.underlying26, List.map_cons, List.map_nil, DataW.weightsEach, List.mem_append]
    exact .inr (.inl hn))
  obtain ⟨p, n, c, B, rfl, hB⟩ := openBo Try.underlying23 Try.underlying4 cellsOf4 bytesOf4 hy0 hw0
  obtain ⟨q, m, e, V, rfl, hV⟩ := openI Try.underlying24 Try.underlying2 cellsOf2 bytesOf2 hy1 hw1
  obtain ⟨z, hz, _, _⟩ := DataW.trod_int Try.underlying2 hy2
  cases hz
  exact ⟨⟨p, n, c, q, m, e⟩, ⟨B, V, z⟩, rfl, ⟨hB, hV⟩⟩
set_option maxRecDepth 100000 in
theorem openRecs' {H : Type} {enc : TypeId × Value → H} {W : World} {v : Value} {fuel : Nat} {y : DataW H × List MemPlace} (hf : DataW.trod enc Try.prog W 0 (fun _ => true) true fuel 32 [v] = some y) (hall : ∀ n ∈ y.1.weights Try.prog 32, n ≤ reachBytes) : ∃ a len cap l, v = .slice a len cap ∧ InR W a len cap l ∧ len ≤ 46912496118442 := by
  rcases Go.Deep.open_slice Try.underlying32 hf with ⟨hcs, _⟩ | ⟨x, len, cap, m, n, D, Pl, hcs, _, hl, hm, hmm, hxx, hx⟩
  · simp only [List.cons.injEq, and_true] at hcs
    subst hcs
    exact ⟨none, 0, 0, [], rfl, InR.empty W, by omega⟩
  · simp only [List.cons.injEq, and_true] at hcs
    subst hcs
    simp only [if_true] at hmm
    subst hmm
    subst hxx
    have hs := hall ((len + (m - len)) * 24) (by simp [DataW.weights, Try.underlying32, bytesOfR])
    simp only [reachBytes] at hs
    have hsp : 0 < len → x.spot = none := by
      intro h0
      obtain ⟨cs', h1, _⟩ := hx 0 (by omega)
      rw [cellsOfR] at h1
      obtain ⟨_, hlen, hcell⟩ := World.cells?_some h1
      have c0 := hcell 0 (by omega)
      rw [Nat.zero_mul, Go.Deep.add_add, List.getElem?_eq_getElem (by omega)] at c0
      simpa [Addr.add] using World.cell?_spot c0
    have each : ∀ i, i < len → ∃ g : MR, x.spot = none ∧ x.block < W.heap.size ∧ W.cell? ⟨x.block, x.off + i * 3, none⟩ = some (.int .i64 g.kind) ∧ W.cell? ⟨x.block, x.off + i * 3 + 1, none⟩ = some (.int .i64 g.block) ∧ W.cell? ⟨x.block, x.off + i * 3 + 2, none⟩ = some (.int .i64 g.value) := by
      intro i hi
      obtain ⟨cs', h1, h2⟩ := hx i (by omega)
      rw [cellsOfR] at h1
      obtain ⟨_, hlen, hcell⟩ := World.cells?_some h1
      obtain ⟨xs, k, hk, hxy, _, hxl, hfl⟩ := DataW.trod_struct Try.underlying60 h2
      simp only [Prod.mk.injEq] at hxy
      match xs, hxl, cs', hlen with
      | [y0, y1, y2], _, [v0, v1, v2], _ =>
        have g0 := hfl 0 _ rfl
        have g1 := hfl 1 _ rfl
        have g2 := hfl 2 _ rfl
        simp [cellsOf2, cellsOf3] at g0 g1 g2
        obtain ⟨z0, e0, _, _⟩ := DataW.trod_int Try.underlying3 g0
        obtain ⟨z1, e1, _, _⟩ := DataW.trod_int Try.underlying3 g1
        obtain ⟨z2, e2, _, _⟩ := DataW.trod_int Try.underlying2 g2
        cases e0; cases e1; cases e2
        have c0 := hcell 0 (by omega)
        have c1 := hcell 1 (by omega)
        have c2 := hcell 2 (by omega)
        rw [Go.Deep.add_add] at c0 c1 c2
        have hs := hsp (by omega)
        obtain ⟨xb, xo, xs'⟩ := x
        dsimp only at hs
        subst hs
        rw [addr_add] at c0 c1 c2
        have hlt := block_lt_of_cell (c0.trans (by rfl))
        exact ⟨⟨z0, z1, z2⟩, rfl, hlt, by simpa using c0, by simpa [Nat.add_assoc] using c1, by simpa [Nat.add_assoc] using c2⟩
    obtain ⟨g, hg⟩ := @Go.Deep.choose_lt MR ⟨⟨0, 0, 0⟩⟩ _ _ each
    refine ⟨some x, len, m, (List.range len).map g, rfl, ⟨by simp, hl, hm, by omega, fun h0 => ?_, fun h => by cases h⟩, by omega⟩
    have h00 := hg 0 h0
    obtain ⟨xb, xo, xs'⟩ := x
    have hs : xs' = none := h00.1
    subst hs
    refine ⟨xb, xo, rfl, h00.2.1, fun i hi => ?_⟩
    obtain ⟨_, _, w0, w1, w2⟩ := hg i hi
    have e' : eR ((List.range len).map g) i = g i := by simp [eR, hi]
    rw [e']
    exact ⟨w0, w1, w2⟩
theorem openRecs {H : Type} {enc : TypeId × Value → H} {W : World} {v : Value} {d : DataW H} {p : List MemPlace} {ts : List TypeId} {ds : List (DataW H)} {j : Nat} (hv : ∃ a l c, v = .slice a l c)
    (h : DataW.Trod enc Try.prog W 0 (fun _ => true) true 32 v d p) (hsz : (DataW.weightsEach Try.prog ts ds).all (· ≤ reachBytes) = true) (ht : ts[j]? = some 32) (hd : ds[j]? = some d) : ∃ a n c l, v = .slice a n c ∧ InR W a n c l ∧ n ≤ 46912496118442 := by
  obtain ⟨a, l, c, rfl⟩ := hv
  obtain ⟨fuel, hf⟩ := h
  exact openRecs' hf (fun n hn => by simpa using List.all_eq_true.1 hsz _ (DataW.weights_mem_each ht hd n hn))
end Go.Proofs.Ytpikaagdiafieab
