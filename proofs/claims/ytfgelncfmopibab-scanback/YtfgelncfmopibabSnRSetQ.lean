/-
  What is settled, in the reference's words.
-/
import Derived.Test.YtfgelncfmopibabSnHome
namespace Go.Proofs.Ytfgelncfmopibab
open Go.RowKit
theorem isPl_no {z : Pl} (h : ¬ (0 ≤ z.ph ∧ z.ph < 256 ∧ 0 ≤ z.pg ∧ z.pg < 32)) : isPl z = false := on_no h
theorem isPl_yes {z : Pl} (h : 0 ≤ z.ph ∧ z.ph < 256 ∧ 0 ≤ z.pg ∧ z.pg < 32) : isPl z = true := on_yes h
/-- Whether one of the first k places from place a on is one. -/
def someTo (zs : List Pl) (a : Nat) : Nat → Bool
  | 0 => false
  | k + 1 => someTo zs a k || isPl (eZ zs (a + k))
theorem someTo_true {zs : List Pl} {a k : Nat} (h : someTo zs a k = true) {m : Nat} (hm : k ≤ m) : someTo zs a m = true := by
  induction m with
  | zero => obtain rfl : k = 0 := by omega
            exact h
  | succ m ih =>
    by_cases e : k = m + 1
    · subst e; exact h
    · unfold someTo; rw [ih (by omega)]; rfl
/-- The block of the first k places from place a on: -1: none yet; none: it is not settled. -/
def refH (zs : List Pl) (a : Nat) : Nat → Option Int
  | 0 => some (-1)
  | k + 1 => match refH zs a k with
    | none => none
    | some x => if isPl (eZ zs (a + k)) = false then some x else if (eZ zs (a + k)).pg = (k : Int) ∧ (x < 0 ∨ (eZ zs (a + k)).ph = x) then some (eZ zs (a + k)).ph else none
theorem refH_none {zs : List Pl} {a k : Nat} (h : refH zs a k = none) {m : Nat} (hm : k ≤ m) : refH zs a m = none := by
  induction m with
  | zero => obtain rfl : k = 0 := by omega
            exact h
  | succ m ih =>
    by_cases e : k = m + 1
    · subst e; exact h
    · unfold refH; rw [ih (by omega)]
/-- Whether one of the first i places is of another logical block and stands in block x. -/
def refG (zs : List Pl) (P B : Nat) (x : Int) : Nat → Bool
  | 0 => false
  | i + 1 => refG zs P B x i || (!(i / P == B) && (isPl (eZ zs i) && (eZ zs i).ph == x))
theorem refG_true {zs : List Pl} {P B : Nat} {x : Int} {k : Nat} (h : refG zs P B x k = true) {m : Nat} (hm : k ≤ m) : refG zs P B x m = true := by
  induction m with
  | zero => obtain rfl : k = 0 := by omega
            exact h
  | succ m ih =>
    by_cases e : k = m + 1
    · subst e; exact h
    · unfold refG; rw [ih (by omega)]; rfl
def setR (zs : List Pl) (P B a n : Nat) : Int × Bool := match refH zs a P with
  | none => (0, false)
  | some x => if x < 0 then (0, false) else if refG zs P B x n then (0, false) else (x, true)
end Go.Proofs.Ytfgelncfmopibab
