/-
  How calls of the law that came in are read.
-/
import Derived.Test.YtdmnddikcpfmfaaRows
import Derived.Test.YtdmnddikcpfmfaaCkMust
import Derived.ProofKit
import Derived.OpenShut
import Derived.ShutString
import Derived.ChangeOld
import Derived.SizedLaws
import Derived.Deep.Grids
namespace Go.Proofs.Ytdmnddikcpfmfaa
open Go.ChangeShapes Go.WideShapes Go.ChangeAt Go.RowKit
theorem own : ownKnob Try.prog.godebug = none := by kernel_rfl
theorem laidOut : laidOutB Try.prog = true := by kernel_rfl
theorem bytesI : Try.prog.bytesOf 3 = 8 := by kernel_rfl
theorem cellsCall : Try.prog.cellsOf 34 = 6 := by kernel_rfl
theorem cells3 : Try.prog.cellsOf 3 = 1 := by kernel_rfl
theorem cells5 : Try.prog.cellsOf 5 = 1 := by kernel_rfl
theorem cellsInts : Try.prog.cellsOf 32 = 1 := by kernel_rfl
theorem mem_weightsAll {H : Type} {P : Program} {e : TypeId} {n : Nat} {D : DataW H} (hn : n ∈ D.weights P e) : ∀ {l : List (DataW H)}, D ∈ l → n ∈ DataW.weightsAll P e l
  | [], h => by simp at h
  | d :: r, h => by
    simp only [DataW.weightsAll, List.mem_append]
    rcases List.mem_cons.1 h with rfl | h
    · exact .inl hn
    · exact .inr (mem_weightsAll hn h)
/-- Ints inside a call. -/
theorem openInts {H : Type} {enc : TypeId × Value → H} {W : World} {v : Value} {fuel : Nat} {y : DataW H × List MemPlace} (hf : DataW.trod enc Try.prog W 0 (fun _ => true) true fuel 32 [v] = some y)
    (hs : ∀ n ∈ y.1.weights Try.prog 32, n ≤ reachBytes) : ∃ q m d xs, v = .slice q m d ∧ InI W q m d xs := by
  rcases open_ints Try.underlying32 Try.underlying3 cells3 hf with ⟨hcs, _⟩ | ⟨x, l, c, zs, hcs, _, hl, hm, hz, hx, hcell, hwz⟩
  · simp at hcs
    subst hcs
    exact ⟨none, 0, 0, [], rfl, InI.empty W⟩
  · simp at hcs
    subst hcs
    subst hx
    have hw := hs (((zs.take l).length + (zs.drop l).length) * 8) (by simp [DataW.weights, Try.underlying32, bytesI, lits])
    have hzl : zs.length = c := by simpa using hz
    simp only [List.length_take, List.length_drop, reachBytes, hzl] at hw
    refine ⟨some x, l, c, zs.take l, rfl, by rw [List.length_take]; omega, hl, hm, by omega, fun h0 => ?_, fun h => by simp at h⟩
    have hc0 := hcell 0 (by omega)
    obtain ⟨b, o, s⟩ := x
    have hsp : s = none := by simpa [Addr.add] using World.cell?_spot hc0
    subst hsp
    refine ⟨b, o, rfl, block_lt_of_cell hc0, fun i hi => ?_⟩
    have hci := hcell i (by omega)
    rw [addr_add] at hci
    rw [hci]
    have hil : i < zs.length := by omega
    simp [eI, List.getD_eq_getElem?_getD, List.getElem?_take_of_lt hi, hil]
set_option maxRecDepth 100000 in
theorem openCalls {H : Type} {enc : TypeId × Value → H} {W : World} {a : Option Addr} {len cap : Nat} {d : DataW H} {p : List MemPlace} {ts : List TypeId} {ds : List (DataW H)} {j : Nat}
    (h : DataW.Trod enc Try.prog W 0 (fun _ => true) true 22 (.slice a len cap) d p) (hsz : (DataW.weightsEach Try.prog ts ds).all (· ≤ reachBytes) = true) (ht : ts[j]? = some 22) (hd : ds[j]? = some d) : ∃ os, CallsSrc W a len cap os := by
  obtain ⟨fuel, hf⟩ := h
  rcases Go.Deep.open_slice Try.underlying22 hf with ⟨hcs, _⟩ | ⟨x, l, c, m, n, D, Pl, hcs, _, hl, hm, hmm, hxx, hx⟩
  · simp [Value.cells] at hcs
    obtain ⟨rfl, rfl, rfl⟩ := hcs
    exact ⟨[], rfl, Nat.le_refl _, fun h => by omega, fun x hx => by simp at hx, fun x hx => by simp at hx⟩
  · simp [Value.cells] at hcs
    obtain ⟨rfl, rfl, rfl⟩ := hcs
    simp only [if_true] at hmm
    subst hmm
    simp only [Prod.mk.injEq] at hxx
    obtain ⟨hd1, _⟩ := hxx
    have hall : ∀ n ∈ d.weights Try.prog 22, n ≤ reachBytes := fun n hn => by simpa using List.all_eq_true.1 hsz _ (DataW.weights_mem_each ht hd n hn)
    rw [hd1] at hd hall
    have each : ∀ i, i < len → ∃ g : CallA, x.spot = none ∧ x.block < W.heap.size ∧ InI W g.q g.m g.cp g.xs ∧ ((-9223372036854775808 ≤ g.b ∧ g.b ≤ 9223372036854775807) ∧ g.f < 256) ∧ W.rangeAt x.block (x.off + i * 6) [.int .i64 g.d, .int .i64 g.b, .int .u8 (g.f : Int), .int .i64 g.c, .slice g.q g.m g.cp, .int .i64 g.cut] := by
      have hsp : 0 < len → x.spot = none := by
        intro h0
        obtain ⟨cs', h1, _⟩ := hx 0 (by omega)
        rw [cellsCall] at h1
        obtain ⟨_, hlen, hcell⟩ := World.cells?_some h1
        have c0 := hcell 0 (by omega)
        rw [Nat.zero_mul, Go.Deep.add_add, List.getElem?_eq_getElem (by omega)] at c0
        simpa [Addr.add] using World.cell?_spot c0
      intro i hi
      obtain ⟨cs', h1, h2⟩ := hx i (by omega)
      rw [cellsCall] at h1
      obtain ⟨_, hlen, hcell⟩ := World.cells?_some h1
      obtain ⟨xs, k, hk, hxy, _, hxl, hfl⟩ := DataW.trod_struct Try.underlying34 h2
      simp only [Prod.mk.injEq] at hxy
      match xs, hxl, cs', hlen with
      | [y0, y1, y2, y3, y4, y5], _, [v0, v1, v2, v3, v4, v5], _ =>
        have g0 := hfl 0 _ rfl
        have g1 := hfl 1 _ rfl
        have g2 := hfl 2 _ rfl
        have g3 := hfl 3 _ rfl
        have g4 := hfl 4 _ rfl
        have g5 := hfl 5 _ rfl
        simp [cells3, cells5, cellsInts] at g0 g1 g2 g3 g4 g5
        obtain ⟨z0, e0, _, _⟩ := DataW.trod_int Try.underlying3 g0
        obtain ⟨z1, e1, _, hz1⟩ := DataW.trod_int Try.underlying3 g1
        obtain ⟨z2, e2, _, hz2⟩ := DataW.trod_int Try.underlying5 g2
        obtain ⟨z3, e3, _, _⟩ := DataW.trod_int Try.underlying3 g3
        obtain ⟨z5, e5, _, _⟩ := DataW.trod_int Try.underlying3 g5
        obtain ⟨q, mm, dd, ms, e4, hin⟩ := openInts g4 (fun n hn => hall n (by
          have hDi : n ∈ (D i).weights Try.prog 34 := by
            rw [hxy.1]
            simp only [DataW.weights, Try.underlying34, List.map_cons, List.map_nil, DataW.weightsEach, List.mem_append]
            exact .inr (.inr (.inr (.inr (.inl hn))))
          have := mem_weightsAll (l := (List.range len).map D) hDi (List.mem_map.2 ⟨i, List.mem_range.2 hi, rfl⟩)
          simp only [DataW.weights, Try.underlying22, List.mem_cons, List.mem_append]
          exact .inr (.inl this)))
        have hb2 := bounds_u8 hz2
        obtain ⟨f, rfl⟩ : ∃ f : Nat, z2 = (f : Int) := ⟨z2.toNat, by omega⟩
        cases e0; cases e1; cases e2; cases e3; cases e4; cases e5
        have hs := hsp (by omega)
        obtain ⟨xb, xo, xs'⟩ := x
        dsimp only at hs
        subst hs
        have hcc : ∀ j v, [Value.int .i64 z0, .int .i64 z1, .int .u8 (f : Int), .int .i64 z3, .slice q mm dd, .int .i64 z5][j]? = some v → W.cell? ⟨xb, xo + i * 6 + j, none⟩ = some v := fun j v hv => by
          have hj : j < 6 := (List.getElem?_eq_some_iff.1 hv).1
          have cj := hcell j (by omega)
          rw [Go.Deep.add_add, addr_add] at cj
          rw [← Nat.add_assoc] at cj
          exact cj.trans hv
        have hlt := block_lt_of_cell (hcc 0 _ rfl)
        exact ⟨⟨z0, z1, f, z3, q, mm, dd, z5, ms⟩, rfl, hlt, hin, ⟨bounds_i64 hz1, by show f < 256; omega⟩, hcc⟩
    obtain ⟨g, hg⟩ := @Go.Deep.choose_lt CallA ⟨⟨0, 0, 0, 0, none, 0, 0, 0, []⟩⟩ _ _ each
    refine ⟨(List.range len).map g, by simp, hl, fun h0 => ?_, fun e he => ?_, fun e he => ?_⟩
    · have h00 := hg 0 h0
      obtain ⟨xb, xo, xs'⟩ := x
      have hs : xs' = none := h00.1
      subst hs
      refine ⟨xb, xo, rfl, h00.2.1, fun i e he => ?_⟩
      have hi : i < len := by have := (List.getElem?_eq_some_iff.1 he).1; simpa using this
      rw [List.getElem?_map, List.getElem?_range hi] at he
      cases he
      exact (hg i hi).2.2.2.2
    · obtain ⟨i, hi, rfl⟩ := List.mem_map.1 he
      exact (hg i (List.mem_range.1 hi)).2.2.1
    · obtain ⟨i, hi, rfl⟩ := List.mem_map.1 he
      exact (hg i (List.mem_range.1 hi)).2.2.2.1
end Go.Proofs.Ytdmnddikcpfmfaa
