/-
  The plain heart of P3.3: places in order, the newest header's first.
-/
import Derived.Test.YtmagcohdhljaeaaPgTells
namespace Go.Proofs.Ytmagcohdhljaeaa
open Go.RowKit
/-- A header. -/
structure HdS where
  k : Int
  g : Int
  s : Int
  t : Int
/-- The header at a place. -/
def hAt (H : List HdS) (i : Nat) : HdS := H.getD i ⟨0, 0, 0, 0⟩
def nw (H : List HdS) (x y : Nat) : Bool := newB (hAt H x).s (hAt H x).t (hAt H y).s (hAt H y).t
/-- Which place comes ahead. -/
abbrev ltN (H : List HdS) (x y : Nat) : Prop := (hAt H y).s < (hAt H x).s ∨ ((hAt H x).s = (hAt H y).s ∧ ((hAt H x).t < (hAt H y).t ∨ ((hAt H x).t = (hAt H y).t ∧ x < y)))
theorem nw_iff {H : List HdS} {x y : Nat} : nw H x y = true ↔ (hAt H y).s < (hAt H x).s ∨ ((hAt H x).s = (hAt H y).s ∧ (hAt H x).t < (hAt H y).t) := by
  simp [nw, newB]
theorem nw_no {H : List HdS} {x y : Nat} (h : nw H x y = false) : ¬ ((hAt H y).s < (hAt H x).s ∨ ((hAt H x).s = (hAt H y).s ∧ (hAt H x).t < (hAt H y).t)) := fun h' => by
  rw [nw_iff.2 h'] at h; cases h
/-- A place put into a row of places, from its end on, ahead of all that it is newer than. -/
def insO (_H : List HdS) (L : List Nat) (x k : Nat) : List Nat := L.take k ++ x :: L.drop k
theorem insO_perm (H : List HdS) (L : List Nat) (x k : Nat) : (insO H L x k).Perm (x :: L) := by
  unfold insO
  have h := (List.perm_middle (a := x) (l₁ := L.take k) (l₂ := L.drop k))
  rwa [List.take_append_drop] at h
theorem ltN_trans {H : List HdS} {x y z : Nat} (h : ltN H x y) (h' : ltN H y z) : ltN H x z := by
  unfold ltN at *; omega
/-- All behind place k of L come behind x; the one ahead of place k is not overtaken: the row is in order. -/
theorem insO_sorted {H : List HdS} {L : List Nat} {x k : Nat} (hL : L.Pairwise (ltN H)) (hx : ∀ y ∈ L, y < x) (hk : k ≤ L.length) (h1 : ∀ y ∈ L.drop k, nw H x y = true) (h2 : ∀ j y, k = j + 1 → L[j]? = some y → nw H x y = false) : (insO H L x k).Pairwise (ltN H) := by
  unfold insO
  have hs := hL
  rw [← List.take_append_drop k L, List.pairwise_append] at hs
  obtain ⟨s1, s2, s3⟩ := hs
  have hlast : ∀ a ∈ L.take k, ltN H a x := by
    intro a ha
    obtain ⟨i, hi, rfl⟩ := List.mem_iff_getElem.1 ha
    rw [List.length_take] at hi
    have hi2 : i < L.length := by omega
    rw [List.getElem_take]
    obtain ⟨j, rfl⟩ : ∃ j, k = j + 1 := ⟨k - 1, by omega⟩
    have hj : j < L.length := by omega
    have n1 := nw_no (h2 j L[j] rfl (List.getElem?_eq_getElem hj))
    have x1 := hx L[j] (List.getElem_mem hj)
    have hjx : ltN H L[j] x := by unfold ltN; omega
    rcases Nat.lt_or_ge i j with h | h
    · exact ltN_trans (List.pairwise_iff_getElem.1 hL i j hi2 hj h) hjx
    · obtain rfl : i = j := by omega
      exact hjx
  have hrest : ∀ b ∈ L.drop k, ltN H x b := fun b hb => by have := nw_iff.1 (h1 b hb); unfold ltN; omega
  rw [List.pairwise_append, List.pairwise_cons]
  refine ⟨s1, ⟨hrest, s2⟩, fun a ha b hb => ?_⟩
  rcases List.mem_cons.1 hb with rfl | hb
  · exact hlast a ha
  · exact ltN_trans (hlast a ha) (hrest b hb)
/-- A row that is in order, of the places below n. -/
def OrdL (H : List HdS) (n : Nat) (L : List Nat) : Prop := L.Pairwise (ltN H) ∧ L.Perm (List.range n)
theorem OrdL.lt {H : List HdS} {n : Nat} {L : List Nat} (h : OrdL H n L) : ∀ y ∈ L, y < n := fun _ hy => List.mem_range.1 (h.2.mem_iff.1 hy)
theorem OrdL.len {H : List HdS} {n : Nat} {L : List Nat} (h : OrdL H n L) : L.length = n := by rw [h.2.length_eq, List.length_range]
theorem OrdL.ins {H : List HdS} {n k : Nat} {L : List Nat} (h : OrdL H n L) (hk : k ≤ n) (h1 : ∀ y ∈ L.drop k, nw H n y = true) (h2 : ∀ j y, k = j + 1 → L[j]? = some y → nw H n y = false) : OrdL H (n + 1) (insO H L n k) := by
  refine ⟨insO_sorted h.1 h.lt (by rw [h.len]; exact hk) h1 h2, ?_⟩
  rw [List.range_succ]
  exact (insO_perm H L n k).trans ((List.Perm.cons n h.2).trans (List.perm_append_comm (l₁ := [n])))
theorem OrdL.unique {H : List HdS} {n : Nat} {L M : List Nat} (h : OrdL H n L) (h' : OrdL H n M) : L = M := by
  refine List.Perm.eq_of_pairwise (le := ltN H) (fun a b _ _ h1 h2 => ?_) h.1 h'.1 (h.2.trans h'.2.symm)
  unfold ltN at h1 h2; omega
theorem OrdL.zero (H : List HdS) : OrdL H 0 [] := ⟨List.Pairwise.nil, by simp⟩
/-- One step to the left. -/
theorem insO_swap {H : List HdS} {L : List Nat} {x j : Nat} (hj : j < L.length) : ((insO H L x (j + 1)).set (j + 1) L[j]).set j x = insO H L x j := by
  unfold insO
  rw [List.take_succ_eq_append_getElem hj, List.append_assoc]
  have hl : (L.take j).length = j := by rw [List.length_take]; omega
  rw [List.set_append_right _ _ (by omega), hl]
  simp only [Nat.add_sub_cancel_left, List.cons_append, List.nil_append, List.set_cons_succ, List.set_cons_zero]
  rw [List.set_append_right _ _ (by omega), hl, Nat.sub_self, List.set_cons_zero, List.drop_eq_getElem_cons hj]
theorem insO_get {H : List HdS} {L : List Nat} {x k : Nat} (hk : k ≤ L.length) : (insO H L x k)[k]? = some x := by
  unfold insO
  rw [List.getElem?_append_right (by rw [List.length_take]; omega), List.length_take, Nat.min_eq_left hk, Nat.sub_self]
  rfl
theorem insO_prev {H : List HdS} {L : List Nat} {x j : Nat} (hj : j < L.length) : (insO H L x (j + 1))[j]? = some L[j] := by
  unfold insO
  rw [List.getElem?_append_left (by rw [List.length_take]; omega), List.getElem?_take_of_lt (by omega), List.getElem?_eq_getElem hj]
theorem insO_length (H : List HdS) (L : List Nat) (x k : Nat) : (insO H L x k).length = L.length + 1 := by rw [(insO_perm H L x k).length_eq, List.length_cons]
theorem insO_end (H : List HdS) (L : List Nat) (x : Nat) : insO H L x L.length = L ++ [x] := by simp [insO]
/-- What comes behind in a row of places, as numbers below N. -/
theorem OrdL.of_sort {H : List HdS} {N : Nat} (M : List { k : Nat // k < N }) (hp : M.Perm ((List.range N).attachWith (fun i => i < N) (fun _ h => List.mem_range.1 h))) (hs : M.Pairwise (fun a b => ¬ ltN H b.1 a.1)) : OrdL H N (M.map (fun k => k.1)) := by
  have hperm : (M.map (fun k => k.1)).Perm (List.range N) := by
    have := hp.map (fun k => k.1)
    rwa [List.attachWith_map_subtype_val] at this
  refine ⟨?_, hperm⟩
  have hnd : (M.map (fun k => k.1)).Nodup := hperm.nodup_iff.2 List.nodup_range
  have hs' : (M.map (fun k => k.1)).Pairwise (fun a b => ¬ ltN H b a) := List.pairwise_map.2 hs
  exact (List.pairwise_and_iff.2 ⟨hs', hnd⟩).imp (fun {a b} h => by
    obtain ⟨h1, h2⟩ := h
    unfold ltN at *; omega)
end Go.Proofs.Ytmagcohdhljaeaa
