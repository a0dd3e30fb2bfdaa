/-
  The table of what is settled, as plain lists; the blocks that are needed, as the reference finds them.
-/
import Derived.Test.YtfgelncfmopibabSnSetQ
namespace Go.Proofs.Ytfgelncfmopibab
open Go.RowKit
/-- Which of the first k places from place a on are places, laid into H. -/
def havTo (H : List Bool) (zs : List Pl) (a : Nat) : Nat → List Bool
  | 0 => H
  | k + 1 => (havTo H zs a k).set (a + k) (isPl (eZ zs (a + k)))
theorem havTo_length (H : List Bool) (zs : List Pl) (a k : Nat) : (havTo H zs a k).length = H.length := by
  induction k with
  | zero => rfl
  | succ k ih => simp [havTo, ih]
structure TT where
  d : List Int
  h : List Bool
  l : List Int
def tabStep (zs : List Pl) (P n b : Nat) (t : TT) : TT :=
  if (setR zs P b (b * P) n).2 = true then ⟨t.d.set b (setR zs P b (b * P) n).1, havTo t.h zs (b * P) P, t.l⟩
  else if someTo zs (b * P) P = true then ⟨t.d, t.h, t.l ++ [(b : Int)]⟩ else t
def tabTo (zs : List Pl) (P L n : Nat) : Nat → TT
  | 0 => ⟨List.replicate L (-1), List.replicate n false, []⟩
  | b + 1 => tabStep zs P n b (tabTo zs P L n b)
theorem tabTo_d (zs : List Pl) (P L n b : Nat) : (tabTo zs P L n b).d.length = L := by
  induction b with
  | zero => simp [tabTo]
  | succ b ih => unfold tabTo tabStep; split; · simp [ih]
                 split <;> simp [ih]
theorem tabTo_h (zs : List Pl) (P L n b : Nat) : (tabTo zs P L n b).h.length = n := by
  induction b with
  | zero => simp [tabTo]
  | succ b ih => unfold tabTo tabStep; split; · simp [ih, havTo_length]
                 split <;> simp [ih]
theorem tabTo_l (zs : List Pl) (P L n b : Nat) : (tabTo zs P L n b).l.length ≤ b := by
  induction b with
  | zero => simp [tabTo]
  | succ b ih => unfold tabTo tabStep; split; · show (tabTo zs P L n b).l.length ≤ _; omega
                 split
                 · show ((tabTo zs P L n b).l ++ [(b : Int)]).length ≤ _; rw [List.length_append, List.length_singleton]; omega
                 · omega
theorem step_yes {zs : List Pl} {P n b : Nat} {t : TT} {x : Int} (h : setR zs P b (b * P) n = (x, true)) : tabStep zs P n b t = ⟨t.d.set b x, havTo t.h zs (b * P) P, t.l⟩ := by
  unfold tabStep; rw [h]; rfl
theorem step_loose {zs : List Pl} {P n b : Nat} {t : TT} {x : Int} (h : setR zs P b (b * P) n = (x, false)) (hs : someTo zs (b * P) P = true) : tabStep zs P n b t = ⟨t.d, t.h, t.l ++ [(b : Int)]⟩ := by
  unfold tabStep; rw [h, hs]; rfl
theorem step_no {zs : List Pl} {P n b : Nat} {t : TT} {x : Int} (h : setR zs P b (b * P) n = (x, false)) (hs : someTo zs (b * P) P = false) : tabStep zs P n b t = t := by
  unfold tabStep; rw [h, hs]; rfl
/-- The table of what is settled. -/
def setT (p : Int) (L : Nat) (k : Int) (t : TT) : Tab := ⟨p, (L : Int), k, t.d, t.h, -1, 0, 0, []⟩
theorem lt_ext : ∀ {a b : List Int}, a.Pairwise (· < ·) → b.Pairwise (· < ·) → (∀ x, x ∈ a ↔ x ∈ b) → a = b
  | [], [], _, _, _ => rfl
  | [], y :: b, _, _, h => absurd ((h y).2 (by simp)) (by simp)
  | x :: a, [], _, _, h => absurd ((h x).1 (by simp)) (by simp)
  | x :: a, y :: b, ha, hb, h => by
    rw [List.pairwise_cons] at ha hb
    have hxy : x = y := by
      have h1 := (h x).1 (by simp)
      have h2 := (h y).2 (by simp)
      rw [List.mem_cons] at h1 h2
      rcases h1 with h1 | h1
      · exact h1
      · rcases h2 with h2 | h2
        · exact h2.symm
        · have := ha.1 y h2; have := hb.1 x h1; omega
    subst hxy
    have : a = b := lt_ext ha.2 hb.2 fun z => by
      have hz := h z
      rw [List.mem_cons, List.mem_cons] at hz
      constructor
      · intro hm
        rcases hz.1 (.inr hm) with e | e
        · subst e; have := ha.1 z hm; omega
        · exact e
      · intro hm
        rcases hz.2 (.inr hm) with e | e
        · subst e; have := hb.1 z hm; omega
        · exact e
    rw [this]
/-- Which blocks the first k places name. -/
def seenTo (zs : List Pl) : Nat → List Bool
  | 0 => List.replicate 256 false
  | k + 1 => if isPl (eZ zs k) = true then (seenTo zs k).set (eZ zs k).ph.toNat true else seenTo zs k
theorem seenTo_length (zs : List Pl) (k : Nat) : (seenTo zs k).length = 256 := by
  induction k with
  | zero => exact List.length_replicate
  | succ k ih => unfold seenTo; split <;> simp [ih]
/-- The numbers below m that are marked. -/
def outTo (S : List Bool) : Nat → List Int
  | 0 => []
  | m + 1 => if eB S m = true then outTo S m ++ [(m : Int)] else outTo S m
theorem outTo_length (S : List Bool) (m : Nat) : (outTo S m).length ≤ m := by
  induction m with
  | zero => simp [outTo]
  | succ m ih => unfold outTo; split
                 · rw [List.length_append, List.length_singleton]; omega
                 · omega
theorem outTo_mem {S : List Bool} {m : Nat} {x : Int} : x ∈ outTo S m ↔ ∃ j : Nat, j < m ∧ eB S j = true ∧ (j : Int) = x := by
  induction m with
  | zero => simp [outTo]
  | succ m ih =>
    unfold outTo
    constructor
    · intro h
      split at h
      · rename_i hm
        rw [List.mem_append, List.mem_singleton] at h
        rcases h with h | h
        · obtain ⟨j, h1, h2, h3⟩ := ih.1 h; exact ⟨j, by omega, h2, h3⟩
        · exact ⟨m, by omega, hm, h.symm⟩
      · obtain ⟨j, h1, h2, h3⟩ := ih.1 h; exact ⟨j, by omega, h2, h3⟩
    · rintro ⟨j, h1, h2, h3⟩
      by_cases e : j = m
      · subst e; rw [if_pos h2]; simp [h3]
      · have := ih.2 ⟨j, by omega, h2, h3⟩
        split
        · rw [List.mem_append]; exact .inl this
        · exact this
theorem outTo_lt (S : List Bool) (m : Nat) : (outTo S m).Pairwise (· < ·) := by
  induction m with
  | zero => simp [outTo]
  | succ m ih =>
    unfold outTo
    split
    · rw [List.pairwise_append]
      refine ⟨ih, by simp, fun a ha b hb => ?_⟩
      obtain ⟨j, h1, _, h3⟩ := outTo_mem.1 ha
      rw [List.mem_singleton] at hb
      omega
    · exact ih
theorem seenTo_at {zs : List Pl} {k j : Nat} (hj : j < 256) : eB (seenTo zs k) j = true ↔ ∃ i, i < k ∧ isPl (eZ zs i) = true ∧ (eZ zs i).ph = (j : Int) := by
  induction k with
  | zero =>
    have e : eB (seenTo zs 0) j = false := by unfold seenTo eB; rw [List.getD_eq_getElem?_getD, List.getElem?_replicate]; split <;> rfl
    rw [e]
    exact ⟨fun h => (by cases h), fun ⟨i, h, _⟩ => (by omega)⟩
  | succ k ih =>
    unfold seenTo
    cases hp : isPl (eZ zs k) with
    | false =>
      rw [if_neg (by simp), ih]
      constructor
      · rintro ⟨i, h1, h2, h3⟩; exact ⟨i, by omega, h2, h3⟩
      · rintro ⟨i, h1, h2, h3⟩
        by_cases e : i = k
        · subst e; rw [hp] at h2; cases h2
        · exact ⟨i, by omega, h2, h3⟩
    | true =>
      rw [if_pos rfl]
      have hr := isPl_ph hp
      by_cases e : (eZ zs k).ph.toNat = j
      · have : eB ((seenTo zs k).set (eZ zs k).ph.toNat true) j = true := by
          rw [e]; simp [eB, seenTo_length, hj]
        rw [this]
        exact ⟨fun _ => ⟨k, by omega, hp, by omega⟩, fun _ => rfl⟩
      · have : eB ((seenTo zs k).set (eZ zs k).ph.toNat true) j = eB (seenTo zs k) j := by
          unfold eB; rw [List.getD_eq_getElem?_getD, List.getElem?_set_ne e, ← List.getD_eq_getElem?_getD]
        rw [this, ih]
        constructor
        · rintro ⟨i, h1, h2, h3⟩; exact ⟨i, by omega, h2, h3⟩
        · rintro ⟨i, h1, h2, h3⟩
          by_cases e' : i = k
          · subst e'; omega
          · exact ⟨i, by omega, h2, h3⟩
theorem needed_ref (zs : List Pl) : outTo (seenTo zs zs.length) 256 = neededL zs := by
  refine lt_ext (outTo_lt _ _) (needed_lt zs) fun x => ?_
  rw [outTo_mem, needed_mem]
  constructor
  · rintro ⟨j, h1, h2, h3⟩
    obtain ⟨i, hi, hp, he⟩ := (seenTo_at h1).1 h2
    exact ⟨_, eZ_mem hi, hp, by omega⟩
  · rintro ⟨z, hz, hp, he⟩
    obtain ⟨i, hi, rfl⟩ := mem_at hz
    have hr := isPl_ph hp
    exact ⟨(eZ zs i).ph.toNat, by omega, (seenTo_at (by omega)).2 ⟨i, hi, hp, by omega⟩, by omega⟩
end Go.Proofs.Ytfgelncfmopibab
