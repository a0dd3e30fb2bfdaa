/-
  How an image that came in is read.
-/
import Derived.Test.YtbnnekpglnnneaaDkOf
import Derived.Test.YtbnnekpglnnneaaDkLift
import Derived.Deep.Grids
namespace Go.Proofs.Ytbnnekpglnnneaa
open Go.ChangeShapes Go.WideShapes Go.ChangeAt Go.RowKit
theorem bytesE5' : Try.prog.bytesOf 5 = 1 := by kernel_rfl
theorem cellsB' : Try.prog.cellsOf 31 = 1 := by kernel_rfl
theorem mem_weightsAll' {H : Type} {P : Program} {e : TypeId} {n : Nat} {D : DataW H} (hn : n ∈ D.weights P e) : ∀ {l : List (DataW H)}, D ∈ l → n ∈ DataW.weightsAll P e l
  | [], h => by simp at h
  | d :: r, h => by
    simp only [DataW.weightsAll, List.mem_append]
    rcases List.mem_cons.1 h with rfl | h
    · exact .inl hn
    · exact .inr (mem_weightsAll' hn h)
theorem openBytes {H : Type} {enc : TypeId × Value → H} {W : World} {v : Value} {fuel : Nat} {y : DataW H × List MemPlace} (hf : DataW.trod enc Try.prog W 0 (fun _ => true) true fuel 31 [v] = some y)
    (hs : ∀ n ∈ y.1.weights Try.prog 31, n ≤ reachBytes) : ∃ q m d xs, v = .slice q m d ∧ In W q m d xs := by
  rcases open_ints Try.underlying31 Try.underlying5 cells5 hf with ⟨hcs, _⟩ | ⟨x, l, c, zs, hcs, _, hl, hm, hz, hx, hcell, hwz⟩
  · simp at hcs
    subst hcs
    exact ⟨none, 0, 0, [], rfl, In.empty W⟩
  · simp at hcs
    subst hcs
    subst hx
    have hw := hs ((zs.take l).length + (zs.drop l).length) (by simp [DataW.weights, Try.underlying31, bytesE5', lits])
    have hzl : zs.length = c := by simpa using hz
    simp only [List.length_take, List.length_drop, reachBytes, hzl] at hw
    refine ⟨some x, l, c, (zs.take l).map Int.toNat, rfl, by rw [List.length_map, List.length_take]; omega, hl, hm, by omega, ?_, fun h0 => ?_, fun h => by simp at h⟩
    · intro y hy
      obtain ⟨z, hzm, rfl⟩ := List.mem_map.1 hy
      have := bounds_u8 (hwz z (List.mem_of_mem_take hzm))
      omega
    · have hc0 := hcell 0 (by omega)
      obtain ⟨b, o, s⟩ := x
      have hsp : s = none := by simpa [Addr.add] using World.cell?_spot hc0
      subst hsp
      refine ⟨b, o, rfl, block_lt_of_cell hc0, fun i hi => ?_⟩
      have hci := hcell i (by omega)
      rw [addr_add] at hci
      rw [hci]
      have hil : i < zs.length := by omega
      have hb := bounds_u8 (hwz zs[i] (List.getElem_mem hil))
      simp [el, List.getD_eq_getElem?_getD, List.getElem?_take_of_lt hi, hil]
      omega
structure BAt where
  r : SR
  D : List Nat
theorem bytesB : Try.prog.bytesOf 31 = 24 := by kernel_rfl
set_option maxRecDepth 100000 in
theorem openImage {H : Type} {enc : TypeId × Value → H} {W : World} {a : Option Addr} {len cap : Nat} {d : DataW H} {p : List MemPlace} {ts : List TypeId} {ds : List (DataW H)} {j : Nat}
    (h : DataW.Trod enc Try.prog W 0 (fun _ => true) true 36 (.slice a len cap) d p) (hsz : (DataW.weightsEach Try.prog ts ds).all (· ≤ reachBytes) = true) (ht : ts[j]? = some 36) (hd : ds[j]? = some d) : ∃ rs Ds, RdB W a len cap rs Ds ∧ len ≤ 140737488355328 := by
  obtain ⟨fuel, hf⟩ := h
  rcases Go.Deep.open_slice Try.underlying36 hf with ⟨hcs, _⟩ | ⟨x, l, c, m, n, D, Pl, hcs, _, hl, hm, hmm, hxx, hx⟩
  · simp [Value.cells] at hcs
    obtain ⟨rfl, rfl, rfl⟩ := hcs
    exact ⟨[], [], ⟨rfl, EachIn.nil _, fun h => by omega, Nat.le_refl _⟩, by omega⟩
  · simp [Value.cells] at hcs
    obtain ⟨rfl, rfl, rfl⟩ := hcs
    simp only [if_true] at hmm
    subst hmm
    simp only [Prod.mk.injEq] at hxx
    obtain ⟨hd1, _⟩ := hxx
    have hall : ∀ n ∈ d.weights Try.prog 36, n ≤ reachBytes := fun n hn => by simpa using List.all_eq_true.1 hsz _ (DataW.weights_mem_each ht hd n hn)
    rw [hd1] at hd hall
    have hs := sized_slice hsz ht hd Try.underlying36
    rw [bytesB] at hs
    simp only [List.length_map, List.length_range, reachBytes] at hs
    have each : ∀ i, i < len → ∃ g : BAt, x.spot = none ∧ x.block < W.heap.size ∧ In W g.r.p g.r.n g.r.c g.D ∧ W.cell? ⟨x.block, x.off + i, none⟩ = some (srV g.r) := by
      have hsp0 : 0 < len → x.spot = none := by
        intro h0
        obtain ⟨cs', h1, _⟩ := hx 0 (by omega)
        rw [cellsB'] at h1
        obtain ⟨_, hlen, hcell⟩ := World.cells?_some h1
        have c0 := hcell 0 (by omega)
        rw [Nat.zero_mul, Go.Deep.add_add, List.getElem?_eq_getElem (by omega)] at c0
        simpa [Addr.add] using World.cell?_spot c0
      intro i hi
      obtain ⟨cs', h1, h2⟩ := hx i (by omega)
      rw [cellsB'] at h1
      obtain ⟨_, hlen, hcell⟩ := World.cells?_some h1
      match cs', hlen with
      | [v0], _ =>
        obtain ⟨q, mm, dd, ms, e2, hin⟩ := openBytes h2 (fun n hn => hall n (by
          have := mem_weightsAll' (l := (List.range len).map D) hn (List.mem_map.2 ⟨i, List.mem_range.2 hi, rfl⟩)
          simp only [DataW.weights, Try.underlying36, List.mem_cons, List.mem_append]
          exact .inr (.inl this)))
        subst e2
        have c0 := hcell 0 (by omega)
        rw [Nat.mul_one, Go.Deep.add_add, Nat.add_zero] at c0
        have hsp : x.spot = none := hsp0 (by omega)
        obtain ⟨xb, xo, xs'⟩ := x
        dsimp only at hsp
        subst hsp
        rw [addr_add] at c0
        have hlt := block_lt_of_cell (c0.trans (by rfl))
        exact ⟨⟨⟨q, mm, dd⟩, ms⟩, rfl, hlt, hin, by simpa [srV] using c0⟩
    obtain ⟨g, hg⟩ := @Go.Deep.choose_lt BAt ⟨⟨⟨none, 0, 0⟩, []⟩⟩ _ _ each
    refine ⟨(List.range len).map (fun i => (g i).r), (List.range len).map (fun i => (g i).D), ⟨by simp, ⟨by simp, fun i r D' h1 h2 => ?_⟩, fun h0 => ?_, hl⟩, by omega⟩
    · have hi : i < len := by have := (List.getElem?_eq_some_iff.1 h1).1; simpa using this
      rw [List.getElem?_map, List.getElem?_range hi] at h1 h2
      cases h1; cases h2
      exact (hg i hi).2.2.1
    · have h00 := hg 0 h0
      obtain ⟨xb, xo, xs'⟩ := x
      have hs : xs' = none := h00.1
      subst hs
      refine ⟨xb, xo, rfl, h00.2.1, fun i e he => ?_⟩
      have hi : i < len := by have := (List.getElem?_eq_some_iff.1 he).1; simpa using this
      rw [List.getElem?_map, List.getElem?_range hi] at he
      cases he
      exact (hg i hi).2.2.2
end Go.Proofs.Ytbnnekpglnnneaa
