/-
  How events that came in are read: as what the walks ask for.
-/
import Derived.Test.YthafcnilhloldaaNCallsOk
namespace Go.Proofs.Ythafcnilhloldaa
open Go.ChangeShapes Go.WideShapes Go.ChangeAt Go.RowKit
theorem bytesE5 : Try.prog.bytesOf 5 = 1 := by kernel_rfl
theorem bytesEv : Try.prog.bytesOf 72 = 40 := by kernel_rfl
theorem cellsEv : Try.prog.cellsOf 72 = 3 := by kernel_rfl
theorem cells2 : Try.prog.cellsOf 2 = 1 := by kernel_rfl
theorem cellsB : Try.prog.cellsOf 70 = 1 := by kernel_rfl
theorem mem_weightsAll {H : Type} {P : Program} {e : TypeId} {n : Nat} {D : DataW H} (hn : n ∈ D.weights P e) : ∀ {l : List (DataW H)}, D ∈ l → n ∈ DataW.weightsAll P e l
  | [], h => by simp at h
  | d :: r, h => by
    simp only [DataW.weightsAll, List.mem_append]
    rcases List.mem_cons.1 h with rfl | h
    · exact .inl hn
    · exact .inr (mem_weightsAll hn h)
/-- A mask inside an event. -/
theorem openMask {H : Type} {enc : TypeId × Value → H} {W : World} {v : Value} {fuel : Nat} {y : DataW H × List MemPlace} (hf : DataW.trod enc Try.prog W 0 (fun _ => true) true fuel 70 [v] = some y)
    (hs : ∀ n ∈ y.1.weights Try.prog 70, n ≤ reachBytes) : ∃ q m d xs, v = .slice q m d ∧ In W q m d xs := by
  rcases open_ints Try.underlying70 Try.underlying5 cells5 hf with ⟨hcs, _⟩ | ⟨x, l, c, zs, hcs, _, hl, hm, hz, hx, hcell, hwz⟩
  · simp at hcs
    subst hcs
    exact ⟨none, 0, 0, [], rfl, In.empty W⟩
  · simp at hcs
    subst hcs
    subst hx
    have hw := hs ((zs.take l).length + (zs.drop l).length) (by simp [DataW.weights, Try.underlying70, bytesE5, lits])
    have hzl : zs.length = c := by simpa using hz
    simp only [List.length_take, List.length_drop, reachBytes, hzl] at hw
    refine ⟨some x, l, c, (zs.take l).map Int.toNat, rfl, by rw [List.length_map, List.length_take]; omega, hl, hm, by omega, ?_, fun h0 => ?_, fun h => by simp at h⟩
    · intro y hy
      obtain ⟨z, hzm, rfl⟩ := List.mem_map.1 hy
      have := bounds_u8 (hwz z (List.mem_of_mem_take hzm))
      omega
    · have hc0 := hcell 0 (by omega)
      obtain ⟨b, o, s⟩ := x
      have hsp : s = none := by simpa [Addr.add] using World.cell?_spot hc0
      subst hsp
      refine ⟨b, o, rfl, block_lt_of_cell hc0, fun i hi => ?_⟩
      have hci := hcell i (by omega)
      rw [addr_add] at hci
      rw [hci]
      have hil : i < zs.length := by omega
      have hb := bounds_u8 (hwz zs[i] (List.getElem_mem hil))
      simp [el, List.getD_eq_getElem?_getD, List.getElem?_take_of_lt hi, hil]
      omega
structure EvAt where
  e : Ev
  q : Option Addr
  m : Nat
  d : Nat
set_option maxRecDepth 100000 in
theorem openEvents {H : Type} {enc : TypeId × Value → H} {W : World} {a : Option Addr} {len cap : Nat} {d : DataW H} {p : List MemPlace} {ts : List TypeId} {ds : List (DataW H)} {j : Nat}
    (h : DataW.Trod enc Try.prog W 0 (fun _ => true) true 25 (.slice a len cap) d p) (hsz : (DataW.weightsEach Try.prog ts ds).all (· ≤ reachBytes) = true) (ht : ts[j]? = some 25) (hd : ds[j]? = some d) : ∃ es f, EvSrc W a len cap es f := by
  obtain ⟨fuel, hf⟩ := h
  rcases Go.Deep.open_slice Try.underlying25 hf with ⟨hcs, _⟩ | ⟨x, l, c, m, n, D, Pl, hcs, _, hl, hm, hmm, hxx, hx⟩
  · simp [Value.cells] at hcs
    obtain ⟨rfl, rfl, rfl⟩ := hcs
    exact ⟨[], fun _ => (none, 0, 0), rfl, Nat.le_refl _, Nat.zero_le _, by omega, fun _ => rfl, fun h => by omega, fun i e he => by simp at he⟩
  · simp [Value.cells] at hcs
    obtain ⟨rfl, rfl, rfl⟩ := hcs
    simp only [if_true] at hmm
    subst hmm
    simp only [Prod.mk.injEq] at hxx
    obtain ⟨hd1, _⟩ := hxx
    have hall : ∀ n ∈ d.weights Try.prog 25, n ≤ reachBytes := fun n hn => by simpa using List.all_eq_true.1 hsz _ (DataW.weights_mem_each ht hd n hn)
    rw [hd1] at hd hall
    have hs := sized_slice hsz ht hd Try.underlying25
    rw [bytesEv] at hs
    simp only [List.length_map, List.length_range, reachBytes] at hs
    have each : ∀ i, i < len → ∃ g : EvAt, x.spot = none ∧ x.block < W.heap.size ∧ In W g.q g.m g.d g.e.mask ∧ W.cell? ⟨x.block, x.off + i * 3, none⟩ = some (.int .i64 g.e.at') ∧ W.cell? ⟨x.block, x.off + i * 3 + 1, none⟩ = some (.int .i64 g.e.kind) ∧ W.cell? ⟨x.block, x.off + i * 3 + 2, none⟩ = some (.slice g.q g.m g.d) := by
      have hsp : 0 < len → x.spot = none := by
        intro h0
        obtain ⟨cs', h1, _⟩ := hx 0 (by omega)
        rw [cellsEv] at h1
        obtain ⟨_, hlen, hcell⟩ := World.cells?_some h1
        have c0 := hcell 0 (by omega)
        rw [Nat.zero_mul, Go.Deep.add_add, List.getElem?_eq_getElem (by omega)] at c0
        simpa [Addr.add] using World.cell?_spot c0
      intro i hi
      obtain ⟨cs', h1, h2⟩ := hx i (by omega)
      rw [cellsEv] at h1
      obtain ⟨_, hlen, hcell⟩ := World.cells?_some h1
      obtain ⟨xs, k, hk, hxy, _, hxl, hfl⟩ := DataW.trod_struct Try.underlying72 h2
      simp only [Prod.mk.injEq] at hxy
      match xs, hxl, cs', hlen with
      | [y0, y1, y2], _, [v0, v1, v2], _ =>
        have g0 := hfl 0 _ rfl
        have g1 := hfl 1 _ rfl
        have g2 := hfl 2 _ rfl
        simp [cells2, cells3, cellsB] at g0 g1 g2
        obtain ⟨z0, e0, _, _⟩ := DataW.trod_int Try.underlying2 g0
        obtain ⟨z1, e1, _, _⟩ := DataW.trod_int Try.underlying3 g1
        obtain ⟨q, mm, dd, ms, e2, hin⟩ := openMask g2 (fun n hn => hall n (by
          have hDi : n ∈ (D i).weights Try.prog 72 := by
            rw [hxy.1]
            simp only [DataW.weights, Try.underlying72, List.map_cons, List.map_nil, DataW.weightsEach, List.mem_append]
            exact .inr (.inr (.inl hn))
          have := mem_weightsAll (l := (List.range len).map D) hDi (List.mem_map.2 ⟨i, List.mem_range.2 hi, rfl⟩)
          simp only [DataW.weights, Try.underlying25, List.mem_cons, List.mem_append]
          exact .inr (.inl this)))
        cases e0; cases e1; cases e2
        have c0 := hcell 0 (by omega)
        have c1 := hcell 1 (by omega)
        have c2 := hcell 2 (by omega)
        rw [Go.Deep.add_add] at c0 c1 c2
        have hs := hsp (by omega)
        obtain ⟨xb, xo, xs'⟩ := x
        dsimp only at hs
        subst hs
        rw [addr_add] at c0 c1 c2
        have hlt := block_lt_of_cell (c0.trans (by rfl))
        exact ⟨⟨⟨z0, z1, ms⟩, q, mm, dd⟩, rfl, hlt, hin, by simpa using c0, by simpa [Nat.add_assoc] using c1, by simpa [Nat.add_assoc] using c2⟩
    obtain ⟨g, hg⟩ := @Go.Deep.choose_lt EvAt ⟨⟨noEv, none, 0, 0⟩⟩ _ _ each
    refine ⟨(List.range len).map (fun i => (g i).e), fun i => ((g i).q, (g i).m, (g i).d), by simp, hl, hm, by omega, fun h => (by cases h), fun h0 => ?_, fun i e he => ?_⟩
    · have h00 := hg 0 h0
      obtain ⟨xb, xo, xs'⟩ := x
      have hs : xs' = none := h00.1
      subst hs
      refine ⟨xb, xo, rfl, h00.2.1, fun j u hu => ?_⟩
      have hj : j < len * 3 := by
        have := (List.getElem?_eq_some_iff.1 hu).1
        rw [evc_len] at this
        simpa using this
      obtain ⟨i, r, hir, hr⟩ : ∃ i r, j = i * 3 + r ∧ r < 3 := ⟨j / 3, j % 3, by omega, by omega⟩
      subst hir
      have hi : i < len := by omega
      obtain ⟨k0, k1, k2⟩ := evc_get ((List.range len).map (fun i => (g i).e)) (fun i => ((g i).q, (g i).m, (g i).d)) i (g i).e (by rw [List.getElem?_map, List.getElem?_range hi]; rfl)
      obtain ⟨_, _, _, w0, w1, w2⟩ := hg i hi
      match r, hr with
      | 0, _ => rw [Nat.add_zero] at hu ⊢; rw [k0] at hu; cases hu; exact w0
      | 1, _ => rw [k1] at hu; cases hu; exact w1
      | 2, _ => rw [k2] at hu; cases hu; exact w2
    · rw [List.getElem?_map] at he
      by_cases hi : i < len
      · rw [List.getElem?_range hi] at he
        cases he
        exact (hg i hi).2.2.1
      · rw [List.getElem?_eq_none (by simp; omega)] at he
        cases he
end Go.Proofs.Ythafcnilhloldaa
