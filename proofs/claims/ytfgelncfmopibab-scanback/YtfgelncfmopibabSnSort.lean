/-
  slices.Sort and slices.Compact on a row of ints of the call's own.
-/
import Derived.Test.YtfgelncfmopibabSnNeed
import Derived.Lib.RowBridge
namespace Go.Proofs.Ytfgelncfmopibab
open Go.RowKit Go.Sort Go.Shelf
theorem pq_block {enc : Int → Value} {w : World} {g off m k : Nat} {d : Array Int} {os : Array Obj} (hk : k < w.heap.size) (hne : k ≠ g) : (grow (putRow enc (Sort.ahead w m) g off d) os).heap[k]? = w.heap[k]? := by
  show ((putRow enc (Sort.ahead w m) g off d).heap ++ os)[k]? = _
  rw [Array.getElem?_append_left (by simpa [Sort.ahead] using hk)]
  have : g ≠ k := fun e => hne e.symm
  simp [putRow, mapBlock, Sort.ahead, Array.getElem?_modify, this]
theorem pq_below {enc : Int → Value} {w : World} {g off m B : Nat} {d : Array Int} {os : Array Obj} (hB : B ≤ g) (hs : B ≤ w.heap.size) : Below B w (grow (putRow enc (Sort.ahead w m) g off d) os) :=
  ⟨rfl, rfl, rfl, by simp [Sort.ahead], fun _ hk => pq_block (by omega) (by omega)⟩
theorem pq_holds {enc : Int → Value} {w : World} {g off m : Nat} {d0 d : Array Int} {os : Array Obj} (hg : g < w.heap.size) (h0 : Holds enc w g off d0) (hs : d.size = d0.size) : Holds enc (grow (putRow enc (Sort.ahead w m) g off d) os) g off d :=
  holds_grow enc _ os g off d (by simpa [Sort.ahead] using hg) (holds_putRow enc (Sort.ahead w m) g off d0 d h0 hs)
def sortL (xs : List Int) : List Int := xs.mergeSort fun x y => decide (x ≤ y)
/-- A row of ints that a call may write to. -/
structure HoldsI (B : Nat) (w : World) (p : Option Addr) (n c : Nat) (ys : List Int) : Prop where
  len : ys.length = n
  cap : n ≤ c
  max : c ≤ maxLen
  nil : p = none → c = 0
  at' : 0 < n → ∃ g, p = some ⟨g, 0, none⟩ ∧ B ≤ g ∧ g < w.heap.size ∧ Holds (Value.int .i64) w g 0 ys.toArray
theorem holds_of_owns {B : Nat} {p : Option Addr} {n c : Nat} {xs : List Int} {w : World} (h : w.ownsRow B 3 1 (.slice p n c) n (valsI xs)) : HoldsI B w p n c xs := by
  have hl : xs.length = n := by have := h.1; simpa [valsI] using this
  rcases h.2 with ⟨hv, h0⟩ | ⟨g, cap, cur, hv, hB, hh, hnc, hcm, hsz, htk⟩
  · simp only [Value.slice.injEq] at hv
    obtain ⟨rfl, rfl, rfl⟩ := hv
    exact ⟨hl, Nat.le_refl _, Nat.zero_le _, fun _ => rfl, fun h => by omega⟩
  · simp only [Value.slice.injEq, true_and] at hv
    obtain ⟨rfl, rfl⟩ := hv
    refine ⟨hl, hnc, hcm, (fun h => by cases h), fun h0 => ⟨g, rfl, hB, ?_, ?_⟩⟩
    · rcases Nat.lt_or_ge g w.heap.size with h' | h'
      · exact h'
      · rw [Array.getElem?_eq_none h'] at hh; simp at hh
    · intro j hj
      have hj' : j < xs.length := by simpa using hj
      refine ⟨?_, by rw [Nat.zero_add]; exact h.frozenAt j⟩
      rw [Nat.zero_add, h.cellAt j (by omega), valsI_get xs j hj']
      simp [eI, hj']
theorem HoldsI.inI {B : Nat} {p : Option Addr} {n c : Nat} {xs : List Int} {w : World} (h : HoldsI B w p n c xs) (hn : n ≤ 140737488355328) : InI w p n c xs := by
  refine ⟨h.len, h.cap, h.max, hn, fun h0 => ?_, h.nil⟩
  obtain ⟨g, rfl, _, hg, hH⟩ := h.at' h0
  refine ⟨g, 0, rfl, hg, fun i hi => ?_⟩
  have hl := h.len
  have := (hH i (by simp; omega)).1
  rw [this]
  simp [eI, show i < xs.length by omega]
theorem sort_own {B : Nat} {p : Option Addr} {n c : Nat} {xs : List Int} {w : World} (h : HoldsI B w p n c xs) (hn : n ≤ 100000000) (hB : B ≤ w.heap.size) :
    Calls Try.prog 63 #[.slice p n c] w fun e w' => e = .returned (.tuple #[]) ∧ HoldsI B w' p n c (sortL xs) ∧ Below B w w' := by
  have hl := h.len
  rcases Nat.eq_zero_or_pos n with h0 | h0
  · subst h0
    have hx : xs = [] := List.eq_nil_of_length_eq_zero hl
    subst hx
    have hS := Any.slices_Sort_int_none sortI p c w
    change Calls Try.prog 63 _ _ _ at hS
    refine hS.mono ?_
    rintro e w' ⟨rfl, rfl⟩
    exact ⟨rfl, ⟨by simp [sortL], h.cap, h.max, h.nil, fun h => by omega⟩, Below.refl _ _⟩
  · obtain ⟨g, rfl, hg0, hg1, hH⟩ := h.at' h0
    have hS := Any.slices_Sort_int sortI g 0 c xs w hH hg1 (by omega)
    rw [hl] at hS
    change Calls Try.prog 63 _ _ _ at hS
    refine hS.mono ?_
    rintro e w' ⟨rfl, m1, os1, rfl⟩
    have hyl : (sortL xs).length = n := by unfold sortL; rw [List.length_mergeSort]; exact hl
    have hb := pq_below (enc := Value.int .i64) (w := w) (g := g) (off := 0) (m := m1) (d := (sortL xs).toArray) (os := os1) hg0 hB
    exact ⟨rfl, ⟨hyl, h.cap, h.max, h.nil, fun _ => ⟨g, rfl, hg0, Nat.lt_of_lt_of_le hg1 hb.size, pq_holds hg1 hH (by simp [hl])⟩⟩, hb⟩
theorem compact_own {B : Nat} {p : Option Addr} {n c : Nat} {ys : List Int} {w : World} (h : HoldsI B w p n c ys) (hn : n ≤ 100000000) (hB : B ≤ w.heap.size) :
    Calls Try.prog 65 #[.slice p n c] w fun e w' => e = .returned (.slice p (Lib.compact ys).length c) ∧ HoldsI B w' p (Lib.compact ys).length c (Lib.compact ys) ∧ (Lib.compact ys).length ≤ n ∧ Below B w w' := by
  have hl := h.len
  rcases Nat.eq_zero_or_pos n with h0 | h0
  · subst h0
    have hx : ys = [] := List.eq_nil_of_length_eq_zero hl
    subst hx
    have hC := Any.slices_Compact_int_empty compI p c w
    change Calls Try.prog 65 _ _ _ at hC
    refine hC.mono ?_
    rintro e w' ⟨rfl, rfl⟩
    exact ⟨rfl, ⟨rfl, Nat.zero_le _, h.max, h.nil, fun h => by cases h⟩, Nat.le_refl _, Below.refl _ _⟩
  · obtain ⟨g, rfl, hg0, hg1, hH⟩ := h.at' h0
    have hC := Any.slices_Compact_int compI g 0 c ys w hH (by omega) (by have := h.cap; omega)
    rw [hl] at hC
    change Calls Try.prog 65 _ _ _ at hC
    have hcl : (Lib.compact ys).length ≤ n := by have := Lib.compact_length_le ys; omega
    refine hC.mono ?_
    rintro e w' ⟨rfl, q, rfl⟩
    have hb := pq_below (enc := Value.int .i64) (w := w) (g := g) (off := 0) (m := q) (d := (Lib.compact ys ++ List.replicate (n - (Lib.compact ys).length) 0).toArray) (os := #[]) hg0 hB
    have hk := pq_holds (enc := Value.int .i64) (w := w) (g := g) (off := 0) (m := q) (d := (Lib.compact ys ++ List.replicate (n - (Lib.compact ys).length) 0).toArray) (os := #[]) hg1 hH (by simp; omega)
    rw [grow_empty] at hb hk
    have hcap := h.cap
    refine ⟨rfl, ⟨rfl, by omega, h.max, h.nil, fun h0 => ⟨g, rfl, hg0, Nat.lt_of_lt_of_le hg1 hb.size, fun j hj => ?_⟩⟩, hcl, hb⟩
    have hj' : j < (Lib.compact ys).length := by simpa using hj
    have := hk j (by simp; omega)
    refine ⟨this.1.trans ?_, this.2⟩
    simp
    rw [List.getElem?_append_left hj']
end Go.Proofs.Ytfgelncfmopibab
