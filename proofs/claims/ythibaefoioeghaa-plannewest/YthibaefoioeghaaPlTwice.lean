/-
  What hasTwice answers: whether a number is there twice.
-/
import Derived.Test.YthibaefoioeghaaPlTab
import Derived.Test.YthibaefoioeghaaPlLay
namespace Go.Proofs.Ythibaefoioeghaa
open Go.RowKit Go.Shelf Go.Lib Go.Sort
theorem pr_block {enc : Int → Value} {w : World} {g off m k : Nat} {d : Array Int} {os : Array Obj} (hk : k < w.heap.size) (hne : k ≠ g) : (grow (putRow enc (Sort.ahead w m) g off d) os).heap[k]? = w.heap[k]? := by
  show ((putRow enc (Sort.ahead w m) g off d).heap ++ os)[k]? = _
  rw [Array.getElem?_append_left (by simpa [Sort.ahead] using hk)]
  have : g ≠ k := fun e => hne e.symm
  simp [putRow, mapBlock, Sort.ahead, Array.getElem?_modify, this]
theorem pr_below {enc : Int → Value} {w : World} {g off m B : Nat} {d : Array Int} {os : Array Obj} (hB : B ≤ g) (hs : B ≤ w.heap.size) : Below B w (grow (putRow enc (Sort.ahead w m) g off d) os) :=
  ⟨rfl, rfl, rfl, by simp [Sort.ahead], fun _ hk => pr_block (by omega) (by omega)⟩
theorem pr_holds {enc : Int → Value} {w : World} {g off m : Nat} {d0 d : Array Int} {os : Array Obj} (hg : g < w.heap.size) (h0 : Holds enc w g off d0) (hs : d.size = d0.size) : Holds enc (grow (putRow enc (Sort.ahead w m) g off d) os) g off d :=
  holds_grow enc _ os g off d (by simpa [Sort.ahead] using hg) (holds_putRow enc (Sort.ahead w m) g off d0 d h0 hs)
theorem sorted_at {xs : List Int} {i j : Nat} (hij : i ≤ j) (hj : j < (xs.mergeSort fun x y => decide (x ≤ y)).length) : (xs.mergeSort fun x y => decide (x ≤ y))[i]'(by omega) ≤ (xs.mergeSort fun x y => decide (x ≤ y))[j] := by
  have hp := List.pairwise_mergeSort (le := fun x y : Int => decide (x ≤ y)) (fun a b c h1 h2 => by simp at *; omega) (fun a b => by simp; omega) xs
  rcases Nat.lt_or_eq_of_le hij with h | h
  · have := List.pairwise_iff_getElem.1 hp i j (by omega) hj h
    simpa using this
  · subst h; exact Int.le_refl _
/-- Of a sorted row as many are left as there are, if no number is there twice. -/
theorem twice_iff (xs : List Int) : (Lib.compact (xs.mergeSort fun x y => decide (x ≤ y))).length < xs.length ↔ ¬ xs.Nodup := by
  obtain ⟨ys, hys⟩ : ∃ ys, (xs.mergeSort fun x y => decide (x ≤ y)) = ys := ⟨_, rfl⟩
  have hperm : ys.Perm xs := by rw [← hys]; exact List.mergeSort_perm _ _
  have hl : ys.length = xs.length := hperm.length_eq
  have hle : ∀ i j, (hij : i ≤ j) → (hj : j < ys.length) → ys[i]'(by omega) ≤ ys[j] := by
    subst hys; exact fun i j hij hj => sorted_at hij hj
  rw [hys, ← hperm.nodup_iff, ← hl]
  have e : (Lib.compact ys).length = ((List.range ys.length).filter (Lib.keeps ys.toArray)).length := by simp [Lib.compact, Lib.compactUpTo]
  have e2 : ((List.range ys.length).filter (Lib.keeps ys.toArray)).length < ys.length ↔ ∃ j ∈ List.range ys.length, ¬ Lib.keeps ys.toArray j = true := by
    have := @List.length_filter_lt_length_iff_exists Nat (Lib.keeps ys.toArray) (List.range ys.length)
    rwa [List.length_range] at this
  rw [e, e2]
  constructor
  · rintro ⟨j, hj, hk⟩ hnd
    rw [List.mem_range] at hj
    simp only [Lib.keeps, decide_eq_true_eq, not_or, Decidable.not_not] at hk
    obtain ⟨h0, h1⟩ := hk
    have hj1 : j - 1 < ys.length := by omega
    rw [List.getElem!_toArray, List.getElem!_toArray, getElem!_pos ys j hj, getElem!_pos ys (j - 1) hj1] at h1
    exact List.pairwise_iff_getElem.1 (List.nodup_iff_pairwise_ne.1 hnd) (j - 1) j hj1 hj (by omega) h1.symm
  · intro hnd
    refine Classical.byContradiction fun hno => hnd ?_
    rw [List.nodup_iff_pairwise_ne]
    refine List.pairwise_iff_getElem.2 fun i j hi hj hij hEq => hno ⟨j, List.mem_range.2 hj, ?_⟩
    simp only [Lib.keeps, decide_eq_true_eq, not_or, Decidable.not_not]
    have hj1 : j - 1 < ys.length := by omega
    rw [List.getElem!_toArray, List.getElem!_toArray, getElem!_pos ys j hj, getElem!_pos ys (j - 1) hj1]
    have h1 := hle i (j - 1) (by omega) hj1
    have h2 := hle (j - 1) j (by omega) hj
    exact ⟨by omega, by omega⟩
def twice (xs : List Int) : Bool := decide (¬ xs.Nodup)
set_option maxRecDepth 100000 in
set_option maxHeartbeats 2000000 in
theorem hasTwice_any (B : Nat) (p : Option Addr) (n c : Nat) (xs : List Int) (w : World) (h : w.ownsRow B 3 1 (.slice p n c) n (valsI xs)) (hn : n ≤ 100000000) (hB : B ≤ w.heap.size) :
    Calls Try.prog 75 #[.slice p n c] w fun e w' => e = .returned (.bool (twice xs)) ∧ Below B w w' := by
  have hl : xs.length = n := by have := h.1; simpa [valsI] using this
  rcases Nat.eq_zero_or_pos n with h0 | h0
  · subst h0
    have hx : xs = [] := List.eq_nil_of_length_eq_zero hl
    subst hx
    have HT : Hid (twice [] = false) := by show _ = _; simp [twice]
    have hS := fun W => Any.slices_Sort_int_none sortI p c W
    change ∀ W, Calls Try.prog 84 _ _ _ at hS
    have hC := fun W => Any.slices_Compact_int_empty compI p c W
    change ∀ W, Calls Try.prog 85 _ _ _ at hC
    clear h hl
    go_enter Try.func75, Try.ntmps75
    go_wp2_with (first | (go_at_call 84; refine (hS _).mono ?_; rintro e w1 ⟨rfl, rfl⟩) | (go_at_call 85; refine (hC _).mono ?_; rintro e w2 ⟨rfl, rfl⟩))
    go_ret
    exact ⟨ret_bool HT.out.symm, Below.refl _ _⟩
  · obtain ⟨g, rfl, hg0, hg1⟩ := owns_at h h0
    have hcap : n ≤ c := by
      rcases h.2 with ⟨_, h'⟩ | ⟨g', cap, cur, hv, _, _, hnc, _⟩
      · omega
      · injection hv with _ _ hv; omega
    have hHold : Holds (Value.int .i64) w g 0 xs.toArray := by
      intro j hj
      have hj' : j < xs.length := by simpa using hj
      refine ⟨?_, by rw [Nat.zero_add]; exact h.frozenAt j⟩
      rw [Nat.zero_add, h.cellAt j (by omega), valsI_get xs j hj']
      simp [eI, hj']
    have hS := Any.slices_Sort_int sortI g 0 c xs w hHold hg1 (by omega)
    rw [hl] at hS
    change Calls Try.prog 84 _ _ _ at hS
    obtain ⟨ys, hys⟩ : ∃ ys, (xs.mergeSort fun x y => decide (x ≤ y)) = ys := ⟨_, rfl⟩
    have hyl : ys.length = n := by rw [← hys, List.length_mergeSort]; exact hl
    have HT : Hid (twice xs = decide ((Lib.compact ys).length < n)) := by
      show _ = _
      unfold twice
      rw [← hys, ← hl]
      exact decide_eq_decide.2 (twice_iff xs).symm
    rw [hys] at hS
    have hC : ∀ w1, Holds (Value.int .i64) w1 g 0 ys.toArray → Calls Try.prog 85 #[.slice (some ⟨g, 0, none⟩) n c] w1 fun e w' => e = .returned (.slice (some ⟨g, 0, none⟩) (Lib.compact ys).length c) ∧ ∃ q, w' = putRow (Value.int .i64) (Sort.ahead w1 q) g 0 (Lib.compact ys ++ List.replicate (ys.length - (Lib.compact ys).length) 0).toArray := fun w1 h1 => by
      have := Any.slices_Compact_int compI g 0 c ys w1 h1 (by omega) (by omega)
      rw [hyl] at this ⊢
      exact this
    have HS : Hid (∀ m os, Holds (Value.int .i64) (grow (putRow (Value.int .i64) (Sort.ahead w m) g 0 ys.toArray) os) g 0 ys.toArray ∧ Below B w (grow (putRow (Value.int .i64) (Sort.ahead w m) g 0 ys.toArray) os) ∧ B ≤ (grow (putRow (Value.int .i64) (Sort.ahead w m) g 0 ys.toArray) os).heap.size) := by
      intro m os
      have hb := pr_below (enc := Value.int .i64) (w := w) (g := g) (off := 0) (m := m) (d := ys.toArray) (os := os) hg0 hB
      exact ⟨pr_holds hg1 hHold (by simp [hyl, hl]), hb, Nat.le_trans hB hb.size⟩
    have HP : Hid (∀ (w1 : World) q, B ≤ w1.heap.size → Below B w1 (putRow (Value.int .i64) (Sort.ahead w1 q) g 0 (Lib.compact ys ++ List.replicate (ys.length - (Lib.compact ys).length) 0).toArray)) := fun w1 q hb => by
      have := pr_below (enc := Value.int .i64) (w := w1) (g := g) (off := 0) (m := q) (d := (Lib.compact ys ++ List.replicate (ys.length - (Lib.compact ys).length) 0).toArray) (os := #[]) hg0 hb
      rwa [grow_empty] at this
    have HD : Hid (decide ((Lib.compact ys).length < n) = twice xs) := HT.out.symm
    clear h hHold hyl hys
    generalize Lib.compact ys ++ List.replicate (ys.length - (Lib.compact ys).length) 0 = zs at *
    generalize (Lib.compact ys).length = cl at *
    go_enter Try.func75, Try.ntmps75
    go_wp2_with (first
      | (go_at_call 84; refine hS.mono ?_; rintro e w1 ⟨rfl, m1, os1, hw1⟩; obtain ⟨k1, k2, k3⟩ := HS.out m1 os1; rw [← hw1] at k1 k2 k3; clear hw1)
      | (go_at_call 85; refine (hC _ k1).mono ?_; rintro e w2 ⟨rfl, q2, hw2⟩; have k4 := HP.out w1 q2 k3; rw [← hw2] at k4; clear hw2))
    go_ret
    exact ⟨ret_bool HD.out, k2.trans k4⟩
end Go.Proofs.Ythibaefoioeghaa
