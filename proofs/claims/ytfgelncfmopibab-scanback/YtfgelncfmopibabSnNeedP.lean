/-
  The blocks of places: which they are, each once, rising.
-/
import Derived.Test.YtfgelncfmopibabSnHomes
namespace Go.Proofs.Ytfgelncfmopibab
open Go.RowKit
theorem get_bang {ys : List Int} {i : Nat} (h : i < ys.length) : ys.toArray[i]! = ys[i] := by simp [h]
theorem compact_lt {ys : List Int} (hs : ys.Pairwise (· ≤ ·)) : (Lib.compact ys).Pairwise (· < ·) := by
  unfold Lib.compact Lib.compactUpTo
  rw [List.pairwise_map]
  refine List.Pairwise.imp_of_mem (R := fun i j => i < j) ?_ (List.Pairwise.filter _ List.pairwise_lt_range)
  intro i j hi hj hij
  have hi1 : i < ys.length := by simpa using (List.mem_filter.1 hi).1
  have hj1 : j < ys.length := by simpa using (List.mem_filter.1 hj).1
  have hk := (List.mem_filter.1 hj).2
  rw [get_bang hi1, get_bang hj1]
  have h1 : ys[i] ≤ ys[j - 1]'(by omega) := by
    by_cases e : i = j - 1
    · subst e; exact Int.le_refl _
    · exact List.pairwise_iff_getElem.1 hs i (j - 1) hi1 (by omega) (by omega)
  have h2 : ys[j - 1]'(by omega) ≤ ys[j] := List.pairwise_iff_getElem.1 hs (j - 1) j (by omega) hj1 (by omega)
  have h3 : ys[j] ≠ ys[j - 1]'(by omega) := by
    intro e
    rw [Lib.keeps_neg (by omega) (by rw [get_bang hj1, get_bang (show j - 1 < ys.length by omega)]; exact e)] at hk
    cases hk
  omega
theorem mem_compact {ys : List Int} {x : Int} : x ∈ Lib.compact ys ↔ x ∈ ys := by
  constructor
  · exact compact_mem
  · intro h
    obtain ⟨i, hi, rfl⟩ := List.mem_iff_getElem.1 h
    unfold Lib.compact Lib.compactUpTo
    rw [List.mem_map]
    have key : ∀ i (hi : i < ys.length), ∃ a, a ∈ (List.range ys.length).filter (Lib.keeps ys.toArray) ∧ ys.toArray[a]! = ys[i] := by
      intro i
      induction i with
      | zero => intro hi; exact ⟨0, List.mem_filter.2 ⟨by simpa using hi, Lib.keeps_lt_one _ 0 (by omega)⟩, get_bang hi⟩
      | succ i ih =>
        intro hi
        by_cases e : ys[i + 1] = ys[i]'(by omega)
        · obtain ⟨a, h1, h2⟩ := ih (by omega)
          exact ⟨a, h1, h2.trans e.symm⟩
        · refine ⟨i + 1, List.mem_filter.2 ⟨by simpa using hi, Lib.keeps_pos ?_⟩, get_bang hi⟩
          rw [get_bang hi, get_bang (show i + 1 - 1 < ys.length by omega)]
          exact e
    exact key i hi
theorem sorted_ms (xs : List Int) : (xs.mergeSort fun x y => decide (x ≤ y)).Pairwise (· ≤ ·) := by
  have := List.pairwise_mergeSort (le := fun x y : Int => decide (x ≤ y)) (fun a b c => by simp; omega) (fun a b => by simp; omega) xs
  exact this.imp (fun h => by simpa using h)
theorem needed_lt (zs : List Pl) : (neededL zs).Pairwise (· < ·) := compact_lt (sorted_ms _)
theorem needed_mem {zs : List Pl} {x : Int} : x ∈ neededL zs ↔ ∃ z ∈ zs, isPl z = true ∧ z.ph = x := by
  unfold neededL
  rw [mem_compact, List.mem_mergeSort]
  unfold physL
  rw [List.mem_map]
  constructor
  · rintro ⟨z, hz, rfl⟩
    exact ⟨z, (List.mem_filter.1 hz).1, (List.mem_filter.1 hz).2, rfl⟩
  · rintro ⟨z, h1, h2, rfl⟩
    exact ⟨z, List.mem_filter.2 ⟨h1, h2⟩, rfl⟩
/-- How often a number is bumped. -/
theorem bumpL_at {g : List Int} {xs : List Int} (hx : ∀ x ∈ xs, 0 ≤ x ∧ x < (g.length : Int)) (hp : xs.Pairwise (· < ·)) (j : Nat) : eI (bumpL g xs) j = eI g j + (if (j : Int) ∈ xs then 1 else 0) := by
  induction xs generalizing g with
  | nil => simp [bumpL]
  | cons x xs ih =>
    have hx0 := hx x (List.mem_cons_self ..)
    rw [List.pairwise_cons] at hp
    rw [show bumpL g (x :: xs) = bumpL (bump g x.toNat) xs from rfl, ih (fun y hy => by rw [bump_length]; exact hx y (List.mem_cons_of_mem _ hy)) hp.2]
    by_cases e : (j : Int) = x
    · subst e
      have hn : ¬ (j : Int) ∈ xs := fun h => by have := hp.1 _ h; omega
      have hj : j < g.length := by omega
      rw [if_neg hn, if_pos (List.mem_cons_self ..), Int.toNat_natCast]
      simp [eI, bump, hj]
    · have hb : eI (bump g x.toNat) j = eI g j := by
        unfold eI bump
        rw [List.getD_eq_getElem?_getD, List.getElem?_set_ne (by omega), ← List.getD_eq_getElem?_getD]
      rw [hb]
      congr 1
      simp [e]
/-- How many logical blocks have something in a block. -/
theorem guests_at (zs : List Pl) (P : Nat) (is : List Nat) (j : Nat) : eI (guestsL zs P is) j = ((is.filter fun i => decide ((j : Int) ∈ neededL (chunkL zs P i))).length : Int) := by
  have key : ∀ is : List Nat, (guestsL zs P is.reverse).length = 256 ∧ ∀ j : Nat, eI (guestsL zs P is.reverse) j = ((is.reverse.filter fun i => decide ((j : Int) ∈ neededL (chunkL zs P i))).length : Int) := by
    intro is
    induction is with
    | nil => exact ⟨List.length_replicate, fun j => by
        show eI (List.replicate 256 0) j = 0
        unfold eI
        rw [List.getD_eq_getElem?_getD, List.getElem?_replicate]
        split <;> rfl⟩
    | cons i is ih =>
      rw [List.reverse_cons, guestsL_snoc]
      refine ⟨?_, fun j => ?_⟩
      · have hl : ∀ (xs : List Int) (g : List Int), (bumpL g xs).length = g.length := by
          intro xs
          induction xs with
          | nil => intro g; rfl
          | cons x xs ih2 => intro g; rw [show bumpL g (x :: xs) = bumpL (bump g x.toNat) xs from rfl, ih2, bump_length]
        rw [hl]; exact ih.1
      · rw [bumpL_at (fun x hx => by rw [ih.1]; exact needed_range hx) (needed_lt _), ih.2, List.filter_append]
        by_cases h : (j : Int) ∈ neededL (chunkL zs P i)
        · simp [h]
        · simp [h]
  have := (key is.reverse).2 j
  rwa [List.reverse_reverse] at this
end Go.Proofs.Ytfgelncfmopibab
