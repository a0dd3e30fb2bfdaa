/-
  How operations of the law that came in are read.
-/
import Derived.Test.YtbnnekpglnnneaaDkPreP
import Derived.Test.YtbnnekpglnnneaaDkLift
import Derived.Deep.Grids
namespace Go.Proofs.Ytbnnekpglnnneaa
open Go.ChangeShapes Go.WideShapes Go.ChangeAt Go.RowKit
theorem bytesE5 : Try.prog.bytesOf 5 = 1 := by kernel_rfl
theorem bytesOp : Try.prog.bytesOf 33 = 48 := by kernel_rfl
theorem cellsOp : Try.prog.cellsOf 33 = 4 := by kernel_rfl
theorem cells3 : Try.prog.cellsOf 3 = 1 := by kernel_rfl
theorem cells4 : Try.prog.cellsOf 4 = 1 := by kernel_rfl
theorem cellsB : Try.prog.cellsOf 31 = 1 := by kernel_rfl
theorem mem_weightsAll {H : Type} {P : Program} {e : TypeId} {n : Nat} {D : DataW H} (hn : n ∈ D.weights P e) : ∀ {l : List (DataW H)}, D ∈ l → n ∈ DataW.weightsAll P e l
  | [], h => by simp at h
  | d :: r, h => by
    simp only [DataW.weightsAll, List.mem_append]
    rcases List.mem_cons.1 h with rfl | h
    · exact .inl hn
    · exact .inr (mem_weightsAll hn h)
/-- Bytes inside an operation. -/
theorem openMask {H : Type} {enc : TypeId × Value → H} {W : World} {v : Value} {fuel : Nat} {y : DataW H × List MemPlace} (hf : DataW.trod enc Try.prog W 0 (fun _ => true) true fuel 31 [v] = some y)
    (hs : ∀ n ∈ y.1.weights Try.prog 31, n ≤ reachBytes) : ∃ q m d xs, v = .slice q m d ∧ In W q m d xs := by
  rcases open_ints Try.underlying31 Try.underlying5 cells5 hf with ⟨hcs, _⟩ | ⟨x, l, c, zs, hcs, _, hl, hm, hz, hx, hcell, hwz⟩
  · simp at hcs
    subst hcs
    exact ⟨none, 0, 0, [], rfl, In.empty W⟩
  · simp at hcs
    subst hcs
    subst hx
    have hw := hs ((zs.take l).length + (zs.drop l).length) (by simp [DataW.weights, Try.underlying31, bytesE5, lits])
    have hzl : zs.length = c := by simpa using hz
    simp only [List.length_take, List.length_drop, reachBytes, hzl] at hw
    refine ⟨some x, l, c, (zs.take l).map Int.toNat, rfl, by rw [List.length_map, List.length_take]; omega, hl, hm, by omega, ?_, fun h0 => ?_, fun h => by simp at h⟩
    · intro y hy
      obtain ⟨z, hzm, rfl⟩ := List.mem_map.1 hy
      have := bounds_u8 (hwz z (List.mem_of_mem_take hzm))
      omega
    · have hc0 := hcell 0 (by omega)
      obtain ⟨b, o, s⟩ := x
      have hsp : s = none := by simpa [Addr.add] using World.cell?_spot hc0
      subst hsp
      refine ⟨b, o, rfl, block_lt_of_cell hc0, fun i hi => ?_⟩
      have hci := hcell i (by omega)
      rw [addr_add] at hci
      rw [hci]
      have hil : i < zs.length := by omega
      have hb := bounds_u8 (hwz zs[i] (List.getElem_mem hil))
      simp [el, List.getD_eq_getElem?_getD, List.getElem?_take_of_lt hi, hil]
      omega
set_option maxRecDepth 100000 in
theorem openOps {H : Type} {enc : TypeId × Value → H} {W : World} {a : Option Addr} {len cap : Nat} {d : DataW H} {p : List MemPlace} {ts : List TypeId} {ds : List (DataW H)} {j : Nat}
    (h : DataW.Trod enc Try.prog W 0 (fun _ => true) true 22 (.slice a len cap) d p) (hsz : (DataW.weightsEach Try.prog ts ds).all (· ≤ reachBytes) = true) (ht : ts[j]? = some 22) (hd : ds[j]? = some d) : ∃ os, OpsSrc W a len cap os := by
  obtain ⟨fuel, hf⟩ := h
  rcases Go.Deep.open_slice Try.underlying22 hf with ⟨hcs, _⟩ | ⟨x, l, c, m, n, D, Pl, hcs, _, hl, hm, hmm, hxx, hx⟩
  · simp [Value.cells] at hcs
    obtain ⟨rfl, rfl, rfl⟩ := hcs
    exact ⟨[], rfl, Nat.le_refl _, fun h => by omega, fun i x hx => by simp at hx, fun x hx => by simp at hx⟩
  · simp [Value.cells] at hcs
    obtain ⟨rfl, rfl, rfl⟩ := hcs
    simp only [if_true] at hmm
    subst hmm
    simp only [Prod.mk.injEq] at hxx
    obtain ⟨hd1, _⟩ := hxx
    have hall : ∀ n ∈ d.weights Try.prog 22, n ≤ reachBytes := fun n hn => by simpa using List.all_eq_true.1 hsz _ (DataW.weights_mem_each ht hd n hn)
    rw [hd1] at hd hall
    have each : ∀ i, i < len → ∃ g : OpA, x.spot = none ∧ x.block < W.heap.size ∧ In W g.q g.m g.c g.B ∧ (-9223372036854775808 ≤ g.s ∧ g.s ≤ 9223372036854775807) ∧ W.cell? ⟨x.block, x.off + i * 4, none⟩ = some (.int .i64 g.d) ∧ W.cell? ⟨x.block, x.off + i * 4 + 1, none⟩ = some (.int .i64 g.s) ∧ W.cell? ⟨x.block, x.off + i * 4 + 2, none⟩ = some (.slice g.q g.m g.c) ∧ W.cell? ⟨x.block, x.off + i * 4 + 3, none⟩ = some (.bool g.sh) := by
      have hsp : 0 < len → x.spot = none := by
        intro h0
        obtain ⟨cs', h1, _⟩ := hx 0 (by omega)
        rw [cellsOp] at h1
        obtain ⟨_, hlen, hcell⟩ := World.cells?_some h1
        have c0 := hcell 0 (by omega)
        rw [Nat.zero_mul, Go.Deep.add_add, List.getElem?_eq_getElem (by omega)] at c0
        simpa [Addr.add] using World.cell?_spot c0
      intro i hi
      obtain ⟨cs', h1, h2⟩ := hx i (by omega)
      rw [cellsOp] at h1
      obtain ⟨_, hlen, hcell⟩ := World.cells?_some h1
      obtain ⟨xs, k, hk, hxy, _, hxl, hfl⟩ := DataW.trod_struct Try.underlying33 h2
      simp only [Prod.mk.injEq] at hxy
      match xs, hxl, cs', hlen with
      | [y0, y1, y2, y3], _, [v0, v1, v2, v3], _ =>
        have g0 := hfl 0 _ rfl
        have g1 := hfl 1 _ rfl
        have g2 := hfl 2 _ rfl
        have g3 := hfl 3 _ rfl
        simp [cells3, cells4, cellsB] at g0 g1 g2 g3
        obtain ⟨z0, e0, _, _⟩ := DataW.trod_int Try.underlying3 g0
        obtain ⟨z1, e1, _, hz1⟩ := DataW.trod_int Try.underlying3 g1
        obtain ⟨z3, e3, _⟩ := DataW.trod_bool Try.underlying4 g3
        obtain ⟨q, mm, dd, ms, e2, hin⟩ := openMask g2 (fun n hn => hall n (by
          have hDi : n ∈ (D i).weights Try.prog 33 := by
            rw [hxy.1]
            simp only [DataW.weights, Try.underlying33, List.map_cons, List.map_nil, DataW.weightsEach, List.mem_append]
            exact .inr (.inr (.inl hn))
          have := mem_weightsAll (l := (List.range len).map D) hDi (List.mem_map.2 ⟨i, List.mem_range.2 hi, rfl⟩)
          simp only [DataW.weights, Try.underlying22, List.mem_cons, List.mem_append]
          exact .inr (.inl this)))
        cases e0; cases e1; cases e2; cases e3
        have c0 := hcell 0 (by omega)
        have c1 := hcell 1 (by omega)
        have c2 := hcell 2 (by omega)
        have c3 := hcell 3 (by omega)
        rw [Go.Deep.add_add] at c0 c1 c2 c3
        have hs := hsp (by omega)
        obtain ⟨xb, xo, xs'⟩ := x
        dsimp only at hs
        subst hs
        rw [addr_add] at c0 c1 c2 c3
        have hlt := block_lt_of_cell (c0.trans (by rfl))
        exact ⟨⟨z0, z1, q, mm, dd, z3, ms⟩, rfl, hlt, hin, (bounds_i64 hz1), by simpa using c0, by simpa [Nat.add_assoc] using c1, by simpa [Nat.add_assoc] using c2, by simpa [Nat.add_assoc] using c3⟩
    obtain ⟨g, hg⟩ := @Go.Deep.choose_lt OpA ⟨⟨0, 0, none, 0, 0, false, []⟩⟩ _ _ each
    refine ⟨(List.range len).map g, by simp, hl, fun h0 => ?_, fun i e he => ?_, fun e he => ?_⟩
    · have h00 := hg 0 h0
      obtain ⟨xb, xo, xs'⟩ := x
      have hs : xs' = none := h00.1
      subst hs
      refine ⟨xb, xo, rfl, h00.2.1, fun i e he => ?_⟩
      have hi : i < len := by have := (List.getElem?_eq_some_iff.1 he).1; simpa using this
      rw [List.getElem?_map, List.getElem?_range hi] at he
      cases he
      obtain ⟨_, _, _, _, w0, w1, w2, w3⟩ := hg i hi
      exact ⟨w0, w1, w2, w3⟩
    · have hi : i < len := by have := (List.getElem?_eq_some_iff.1 he).1; simpa using this
      rw [List.getElem?_map, List.getElem?_range hi] at he
      cases he
      exact (hg i hi).2.2.1
    · obtain ⟨i, hi, rfl⟩ := List.mem_map.1 he
      exact (hg i (List.mem_range.1 hi)).2.2.2.1
end Go.Proofs.Ytbnnekpglnnneaa
