/-
  How pages and slices of pages that came in are read: as what the walks ask for.
-/
import Derived.Test.YtpikaagdiafieabMjLift
import Derived.Test.YtpikaagdiafieabMjReplay
namespace Go.Proofs.Ytpikaagdiafieab
open Go.ChangeShapes Go.WideShapes Go.ChangeAt Go.RowKit Go.Joins
theorem cellsOfMP : Try.prog.cellsOf 34 = 7 := by kernel_rfl
theorem bytesOfMP : Try.prog.bytesOf 34 = 104 := by kernel_rfl
theorem cellsOfB : Try.prog.cellsOf 23 = 1 := by kernel_rfl
theorem cellsOfL : Try.prog.cellsOf 24 = 1 := by kernel_rfl
theorem cellsOfRs : Try.prog.cellsOf 32 = 1 := by kernel_rfl
set_option maxRecDepth 100000 in
theorem openPageCells {H : Type} {enc : TypeId × Value → H} {W : World} {cs : List Value} {fuel : Nat} {y : DataW H × List MemPlace} (hl : cs.length = 7) (h2 : DataW.trod enc Try.prog W 0 (fun _ => true) true fuel 34 cs = some y)
    (hall : ∀ n ∈ y.1.weights Try.prog 34, n ≤ reachBytes) : ∃ V P, cs = PV.cells V P ∧ InP W V P := by
  obtain ⟨xs, k, hk, hxy, _, hxl, hfl⟩ := DataW.trod_struct Try.underlying34 h2
  subst hxy
  match xs, hxl, cs, hl with
  | [y0, y1, y2, y3, y4, y5, y6], _, [v0, v1, v2, v3, v4, v5, v6], _ =>
    have g0 := hfl 0 _ rfl
    have g1 := hfl 1 _ rfl
    have g2 := hfl 2 _ rfl
    have g3 := hfl 3 _ rfl
    have g4 := hfl 4 _ rfl
    have g5 := hfl 5 _ rfl
    have g6 := hfl 6 _ rfl
    simp [cellsOf2, cellsOf3, cellsOfB, cellsOfL, cellsOfRs] at g0 g1 g2 g3 g4 g5 g6
    obtain ⟨z0, e0, _, _⟩ := DataW.trod_int Try.underlying3 g0
    obtain ⟨z1, e1, _, _⟩ := DataW.trod_int Try.underlying2 g1
    obtain ⟨z2, e2, _, _⟩ := DataW.trod_int Try.underlying3 g2
    obtain ⟨z3, e3, _, _⟩ := DataW.trod_int Try.underlying2 g3
    cases e0; cases e1; cases e2; cases e3
    have hw4 : ∀ n ∈ y4.1.weights Try.prog 23, n ≤ reachBytes := fun n hn => hall n (by
      simp only [DataW.weights, Try.underlying34, List.map_cons, List.map_nil, DataW.weightsEach, List.mem_append]
      exact .inr (.inr (.inr (.inr (.inl hn)))))
    have hw5 : ∀ n ∈ y5.1.weights Try.prog 24, n ≤ reachBytes := fun n hn => hall n (by
      simp only [DataW.weights, Try.underlying34, List.map_cons, List.map_nil, DataW.weightsEach, List.mem_append]
      exact .inr (.inr (.inr (.inr (.inr (.inl hn))))))
    have hw6 : ∀ n ∈ y6.1.weights Try.prog 32, n ≤ reachBytes := fun n hn => hall n (by
      simp only [DataW.weights, Try.underlying34, List.map_cons, List.map_nil, DataW.weightsEach, List.mem_append]
      exact .inr (.inr (.inr (.inr (.inr (.inr (.inl hn)))))))
    obtain ⟨pb, nb, cb, xb, rfl, hB⟩ := openBo Try.underlying23 Try.underlying4 cellsOf4 bytesOf4 g4 hw4
    obtain ⟨pw, nw, cw, xw, rfl, hV⟩ := openI Try.underlying24 Try.underlying2 cellsOf2 bytesOf2 g5 hw5
    obtain ⟨pr, nr, cr, xr, rfl, hR, _⟩ := openRecs' g6 hw6
    exact ⟨⟨pb, nb, cb, pw, nw, cw, pr, nr, cr⟩, ⟨z0, z1, z2, z3, xb, xw, xr⟩, rfl, ⟨hB, hV, hR⟩⟩
set_option maxRecDepth 100000 in
theorem openPage {H : Type} {enc : TypeId × Value → H} {W : World} {r : Reach} {b0 : Nat} {v : Value} {d : DataW H} {p : List MemPlace} {ts : List TypeId} {ds : List (DataW H)} {j : Nat} (hv : Value.okWide Try.prog W r b0 34 v)
    (h : DataW.Trod enc Try.prog W 0 (fun _ => true) true 34 v d p) (hsz : (DataW.weightsEach Try.prog ts ds).all (· ≤ reachBytes) = true) (ht : ts[j]? = some 34) (hd : ds[j]? = some d) :
    ∃ V P, v = PV.val V P ∧ InP W V P := by
  obtain ⟨cs, rfl, hszc⟩ := okWide_struct Try.underlying34 hv
  rw [cellsOfMP] at hszc
  obtain ⟨fuel, hf⟩ := h
  obtain ⟨V, P, hcs, hin⟩ := openPageCells (by simpa [Value.cells] using hszc) hf (fun n hn => by simpa using List.all_eq_true.1 hsz _ (DataW.weights_mem_each ht hd n hn))
  refine ⟨V, P, ?_, hin⟩
  have : cs.toList = PV.cells V P := by simpa [Value.cells] using hcs
  rw [show cs = (PV.cells V P).toArray by rw [← this]]
  rfl
theorem mem_weightsAll {H : Type} {P : Program} {e : TypeId} {n : Nat} {D : DataW H} (hn : n ∈ D.weights P e) : ∀ {l : List (DataW H)}, D ∈ l → n ∈ DataW.weightsAll P e l
  | [], h => by simp at h
  | d :: r, h => by
    simp only [DataW.weightsAll, List.mem_append]
    rcases List.mem_cons.1 h with rfl | h
    · exact .inl hn
    · exact .inr (mem_weightsAll hn h)
set_option maxRecDepth 100000 in
theorem openPages {H : Type} {enc : TypeId × Value → H} {W : World} {v : Value} {d : DataW H} {p : List MemPlace} {ts : List TypeId} {ds : List (DataW H)} {j : Nat} (hv : ∃ a l c, v = .slice a l c)
    (h : DataW.Trod enc Try.prog W 0 (fun _ => true) true 22 v d p) (hsz : (DataW.weightsEach Try.prog ts ds).all (· ≤ reachBytes) = true) (ht : ts[j]? = some 22) (hd : ds[j]? = some d) : ∃ a n c f l, v = .slice a n c ∧ InPs W a n c f l ∧ n ≤ 46912496118442 := by
  obtain ⟨a, len, cap, rfl⟩ := hv
  obtain ⟨fuel, hf⟩ := h
  have hall : ∀ n ∈ d.weights Try.prog 22, n ≤ reachBytes := fun n hn => by simpa using List.all_eq_true.1 hsz _ (DataW.weights_mem_each ht hd n hn)
  rcases Go.Deep.open_slice Try.underlying22 hf with ⟨hcs, _⟩ | ⟨x, l, c, m, n, D, Pl, hcs, _, hl, hm, hmm, hxx, hx⟩
  · simp [Value.cells] at hcs
    obtain ⟨rfl, rfl, rfl⟩ := hcs
    exact ⟨none, 0, 0, fun _ => ⟨none, 0, 0, none, 0, 0, none, 0, 0⟩, [], rfl, ⟨rfl, Nat.le_refl _, Nat.zero_le _, Nat.zero_le _, fun h => by omega, fun i hi => by omega, fun _ => rfl⟩, by omega⟩
  · simp [Value.cells] at hcs
    obtain ⟨rfl, rfl, rfl⟩ := hcs
    simp only [if_true] at hmm
    subst hmm
    simp only [Prod.mk.injEq] at hxx
    obtain ⟨hd1, _⟩ := hxx
    rw [hd1] at hall
    have hs := hall ((len + (m - len)) * 104) (by simp [DataW.weights, Try.underlying22, bytesOfMP])
    simp only [reachBytes] at hs
    have hsp : 0 < len → x.spot = none := by
      intro h0
      obtain ⟨cs', h1, _⟩ := hx 0 (by omega)
      rw [cellsOfMP] at h1
      obtain ⟨_, hlen, hcell⟩ := World.cells?_some h1
      have c0 := hcell 0 (by omega)
      rw [Nat.zero_mul, Go.Deep.add_add, List.getElem?_eq_getElem (by omega)] at c0
      simpa [Addr.add] using World.cell?_spot c0
    have each : ∀ i, i < len → ∃ g : PV × MP, x.spot = none ∧ x.block < W.heap.size ∧ InP W g.1 g.2 ∧ ∀ jj u, (PV.cells g.1 g.2)[jj]? = some u → W.cell? ⟨x.block, x.off + i * 7 + jj, none⟩ = some u := by
      intro i hi
      obtain ⟨cs', h1, h2⟩ := hx i (by omega)
      rw [cellsOfMP] at h1
      obtain ⟨_, hlen, hcell⟩ := World.cells?_some h1
      obtain ⟨V, P, hcs, hin⟩ := openPageCells hlen h2 (fun n hn => hall n (by
        have := mem_weightsAll (l := (List.range len).map D) hn (List.mem_map.2 ⟨i, List.mem_range.2 hi, rfl⟩)
        simp only [DataW.weights, Try.underlying22, List.mem_cons, List.mem_append]
        exact .inr (.inl this)))
      subst hcs
      have hsx := hsp (by omega)
      obtain ⟨xb, xo, xs'⟩ := x
      dsimp only at hsx
      subst hsx
      have c0 := hcell 0 (by decide)
      rw [Go.Deep.add_add, addr_add] at c0
      have hlt := block_lt_of_cell (c0.trans (by rfl))
      refine ⟨(V, P), rfl, hlt, hin, fun jj u hu => ?_⟩
      have hjj : jj < 7 := by
        rcases Nat.lt_or_ge jj 7 with h' | h'
        · exact h'
        · rw [List.getElem?_eq_none (by exact h')] at hu; cases hu
      have cj := hcell jj (by exact hjj)
      rw [Go.Deep.add_add, addr_add] at cj
      rw [Nat.add_assoc, cj]
      exact hu
    obtain ⟨g, hg⟩ := @Go.Deep.choose_lt (PV × MP) ⟨(⟨none, 0, 0, none, 0, 0, none, 0, 0⟩, ⟨0, 0, 0, 0, [], [], []⟩)⟩ _ _ each
    refine ⟨some x, len, m, fun i => (g i).1, (List.range len).map (fun i => (g i).2), rfl, ⟨by simp, hl, hm, by omega, fun h0 => ?_, fun i hi => ?_, fun h => by cases h⟩, by omega⟩
    · have h00 := hg 0 h0
      obtain ⟨xb, xo, xs'⟩ := x
      have hsx : xs' = none := h00.1
      subst hsx
      refine ⟨xb, xo, rfl, h00.2.1, fun i hi jj u hu => ?_⟩
      have e' : eP ((List.range len).map (fun i => (g i).2)) i = (g i).2 := by simp [eP, hi]
      rw [e'] at hu
      exact (hg i hi).2.2.2 jj u hu
    · have e' : eP ((List.range len).map (fun i => (g i).2)) i = (g i).2 := by simp [eP, hi]
      rw [e']
      exact (hg i hi).2.2.1
end Go.Proofs.Ytpikaagdiafieab
