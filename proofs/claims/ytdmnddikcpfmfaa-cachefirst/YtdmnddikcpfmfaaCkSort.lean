/-
  slices.Sort on a row of ints of the call's own.
-/
import Derived.Test.YtdmnddikcpfmfaaCkDirty2
import Derived.Test.YtdmnddikcpfmfaaCkLayA
import Derived.Lib.RowBridge
import Derived.Sort.OwnSortedInts
namespace Go.Proofs.Ytdmnddikcpfmfaa
open Go.RowKit Go.Sort Go.Shelf
theorem pq_block {enc : Int → Value} {w : World} {g off m k : Nat} {d : Array Int} {os : Array Obj} (hk : k < w.heap.size) (hne : k ≠ g) : (grow (putRow enc (Sort.ahead w m) g off d) os).heap[k]? = w.heap[k]? := by
  show ((putRow enc (Sort.ahead w m) g off d).heap ++ os)[k]? = _
  rw [Array.getElem?_append_left (by simpa [Sort.ahead] using hk)]
  have : g ≠ k := fun e => hne e.symm
  simp [putRow, mapBlock, Sort.ahead, Array.getElem?_modify, this]
theorem pq_below {enc : Int → Value} {w : World} {g off m B : Nat} {d : Array Int} {os : Array Obj} (hB : B ≤ g) (hs : B ≤ w.heap.size) : Below B w (grow (putRow enc (Sort.ahead w m) g off d) os) :=
  ⟨rfl, rfl, rfl, by simp [Sort.ahead], fun _ hk => pq_block (by omega) (by omega)⟩
theorem pq_holds {enc : Int → Value} {w : World} {g off m : Nat} {d0 d : Array Int} {os : Array Obj} (hg : g < w.heap.size) (h0 : Holds enc w g off d0) (hs : d.size = d0.size) : Holds enc (grow (putRow enc (Sort.ahead w m) g off d) os) g off d :=
  holds_grow enc _ os g off d (by simpa [Sort.ahead] using hg) (holds_putRow enc (Sort.ahead w m) g off d0 d h0 hs)
theorem sorts_own : SortsI := by
  intro B v xs w h hn hB
  rcases Nat.eq_zero_or_pos xs.length with h0 | h0
  · have hx : xs = [] := List.eq_nil_of_length_eq_zero h0
    subst hx
    obtain ⟨p, c, rfl⟩ := owns_slice h
    have hS := Any.slices_Sort_int_none sortI p c w
    change Calls Try.prog 65 _ _ _ at hS
    refine hS.mono ?_
    rintro e w' ⟨rfl, rfl⟩
    refine ⟨⟨_, rfl⟩, ?_, Below.refl _ _⟩
    have e : sortL [] = [] := by simp [sortL]
    rw [e]
    exact h
  · obtain ⟨g, cap, cur, rfl, hg, hh, hcp, hcm, hsz, ht⟩ : ∃ g cap cur, v = .slice (some ⟨g, 0, none⟩) xs.length cap ∧ B ≤ g ∧ w.heap[g]? = some (.cells cur 3 (0, 0)) ∧ xs.length ≤ cap ∧ cap ≤ maxLen ∧ cur.size = cap * 1 ∧ (cur.toList.take (xs.length * 1)) = valsI xs := by
      rcases h.2 with ⟨_, hn⟩ | ⟨g, cap, cur, rfl, hg, hh, hc, hm, hs, ht⟩
      · omega
      · exact ⟨g, cap, cur, rfl, hg, hh, hc, hm, hs, ht⟩
    have hlt : g < w.heap.size := (Array.getElem?_eq_some_iff.1 hh).1
    have hH : Holds (Value.int .i64) w g 0 xs.toArray := by
      intro j hj
      have hj' : j < xs.length := by simpa using hj
      refine ⟨?_, by rw [Nat.zero_add]; exact h.frozenAt j⟩
      rw [Nat.zero_add, h.cellAt j (by omega), valsI_get xs j hj']
      simp [eI, hj']
    have hS := Any.slices_Sort_int sortI g 0 cap xs w hH hlt (by omega)
    change Calls Try.prog 65 _ _ _ at hS
    refine hS.mono ?_
    rintro e w' ⟨rfl, m1, os1, rfl⟩
    have hb := pq_below (enc := Value.int .i64) (w := w) (g := g) (off := 0) (m := m1) (d := (sortL xs).toArray) (os := os1) hg hB
    refine ⟨⟨_, rfl⟩, ?_, hb⟩
    have hyl : (sortL xs).length = xs.length := by unfold sortL; rw [List.length_mergeSort]
    exact ownsRow_sortedI (ts := sortL xs) hyl hg hh hcp hcm hsz
end Go.Proofs.Ytdmnddikcpfmfaa
