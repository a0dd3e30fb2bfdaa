/-
  The reference's choice of the newest, by places: the same as the program's.
-/
import Derived.Test.YtfgelncfmopibaaSnNewR
namespace Go.Proofs.Ytfgelncfmopibaa
open Go.RowKit
/-- Whether something counts for a page. -/
def hitB (P : Int) (p : Nat) (x : Fd) : Bool := cntB P x && (x.p == (p : Int))
/-- The place of the newest so far, or -1. -/
def bestI (P : Int) (p : Nat) (xs : List Fd) : Nat → Int
  | 0 => -1
  | k + 1 => if hitB P p (eF xs k) && (decide (bestI P p xs k < 0) || aheadB (eF xs k) (eF xs (bestI P p xs k).toNat)) then (k : Int) else bestI P p xs k
theorem bestI_spec (P : Int) (p : Nat) (xs : List Fd) (k : Nat) : (bestI P p xs k = -1 ∧ ∀ i, i < k → hitB P p (eF xs i) = false) ∨ (∃ j, j < k ∧ bestI P p xs k = (j : Int) ∧ hitB P p (eF xs j) = true ∧ ∀ i, i < k → hitB P p (eF xs i) = true → aheadB (eF xs i) (eF xs j) = false) := by
  induction k with
  | zero => exact .inl ⟨rfl, fun i hi => by omega⟩
  | succ k ih =>
    unfold bestI
    rcases ih with ⟨h1, h2⟩ | ⟨j, hj, h1, h2, h3⟩
    · rw [h1]
      cases hh : hitB P p (eF xs k) with
      | false =>
        refine .inl ⟨by simp, fun i hi => ?_⟩
        by_cases e : i = k
        · rw [e]; exact hh
        · exact h2 i (by omega)
      | true =>
        refine .inr ⟨k, by omega, by simp, hh, fun i hi hi2 => ?_⟩
        by_cases e : i = k
        · subst e
          cases hB : aheadB (eF xs i) (eF xs i) with
          | false => rfl
          | true => rw [aheadB_iff] at hB; omega
        · rw [h2 i (by omega)] at hi2; cases hi2
    · rw [h1, Int.toNat_natCast, show decide ((j : Int) < 0) = false by simp, Bool.false_or]
      cases hh : hitB P p (eF xs k) with
      | false =>
        refine .inr ⟨j, by omega, by simp, h2, fun i hi hi2 => ?_⟩
        by_cases e : i = k
        · rw [e, hh] at hi2; cases hi2
        · exact h3 i (by omega) hi2
      | true =>
        cases ha : aheadB (eF xs k) (eF xs j) with
        | false =>
          refine .inr ⟨j, by omega, by simp, h2, fun i hi hi2 => ?_⟩
          by_cases e : i = k
          · rw [e]; exact ha
          · exact h3 i (by omega) hi2
        | true =>
          refine .inr ⟨k, by omega, by simp, hh, fun i hi hi2 => ?_⟩
          cases hB : aheadB (eF xs i) (eF xs k) with
          | false => rfl
          | true =>
            by_cases e : i = k
            · rw [e] at hB; rw [aheadB_iff] at hB; omega
            · have := h3 i (by omega) hi2
              have n1 : ¬ aheadB (eF xs i) (eF xs j) = true := by rw [this]; simp
              rw [aheadB_iff] at n1 ha hB
              omega
theorem bestI_range (P : Int) (p : Nat) (xs : List Fd) (k : Nat) : -1 ≤ bestI P p xs k ∧ bestI P p xs k < (k : Int) ∨ (bestI P p xs k = -1 ∧ k = 0) := by
  rcases bestI_spec P p xs k with ⟨h, _⟩ | ⟨j, hj, h, _⟩
  · rw [h]; omega
  · rw [h]; omega
/-- The place that the reference tells. -/
def refPl (P : Int) (p : Nat) (xs : List Fd) : Pl := if bestI P p xs xs.length < 0 then ⟨-1, 0⟩ else ⟨(eF xs (bestI P p xs xs.length).toNat).ph, (eF xs (bestI P p xs xs.length).toNat).pg⟩
theorem hitB_iff {P : Int} {p : Nat} {x : Fd} : hitB P p x = true ↔ cntB P x = true ∧ x.p = (p : Int) := by simp [hitB]
theorem refPl_eq (P : Int) (M p : Nat) (hp : p < M) (xs : List Fd) : refPl P p xs = eZ (placesOf (newestL P M xs)) p := by
  rw [placesOf_at _ _ (by rw [newestL_length]; exact hp)]
  have hb := newestL_best P M xs p hp
  generalize (newestL P M xs).getD p noneF = r at *
  have hb' : ∃ r', BestOf (xs.filter (cntB P)) p r' ∧ refPl P p xs = ⟨r'.ph, r'.pg⟩ := by
    rcases bestI_spec P p xs xs.length with ⟨h1, h2⟩ | ⟨j, hj, h1, h2, h3⟩
    · refine ⟨noneF, .inr ⟨rfl, fun g hg => ?_⟩, by unfold refPl; rw [h1]; rfl⟩
      obtain ⟨hg1, hg2⟩ := List.mem_filter.1 hg
      obtain ⟨i, hi, rfl⟩ := List.mem_iff_getElem.1 hg1
      have := h2 i hi
      intro hgp
      have e : eF xs i = xs[i] := by simp [eF, hi]
      rw [e, hitB_iff.2 ⟨hg2, hgp⟩] at this
      cases this
    · obtain ⟨c1, c2⟩ := hitB_iff.1 h2
      refine ⟨eF xs j, .inl ⟨List.mem_filter.2 ⟨eF_mem hj, c1⟩, c2, fun g hg hgp => ?_⟩, ?_⟩
      · obtain ⟨hg1, hg2⟩ := List.mem_filter.1 hg
        obtain ⟨i, hi, rfl⟩ := List.mem_iff_getElem.1 hg1
        have e : eF xs i = xs[i] := by simp [eF, hi]
        rw [← e]
        exact h3 i hi (by rw [e]; exact hitB_iff.2 ⟨hg2, hgp⟩)
      · unfold refPl
        rw [h1, if_neg (by omega), Int.toNat_natCast]
  obtain ⟨r', hr', e⟩ := hb'
  obtain ⟨e1, e2⟩ := best_one hr' hb (fun _ => Iff.rfl)
  rw [e, e1, e2]
end Go.Proofs.Ytfgelncfmopibaa
