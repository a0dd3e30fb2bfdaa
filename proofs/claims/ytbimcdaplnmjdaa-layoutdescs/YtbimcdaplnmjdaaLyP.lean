/-
  The layout of a disk as plain numbers.
-/
import Derived.Test.YtbimcdaplnmjdaaDkCells
namespace Go.Proofs.Ytbimcdaplnmjdaa
open Go.RowKit
/-- How many groups so many blocks have. -/
def gN (b : Int) : Int := (b + 127) / 128
/-- How many blocks their descriptors have. -/
def dN (b : Int) : Int := (gN b + 15) / 16
/-- How many blocks the last group has. -/
def lastL (b : Int) : Int := (b - 1) % 128 + 1
/-- Whether a shape may be. -/
def okS (b j : Int) : Bool := decide (1 ≤ b ∧ b ≤ 8192 ∧ 16 ≤ j ∧ j ≤ 64 ∧ 16 ≤ lastL b ∧ 8 + dN b + j ≤ min 128 b)
/-- 110 is ErrShape. -/
def chkE (b j : Int) : Int := if okS b j then 0 else 110
theorem okS_iff {b j : Int} : okS b j = true ↔ 1 ≤ b ∧ b ≤ 8192 ∧ 16 ≤ j ∧ j ≤ 64 ∧ 16 ≤ lastL b ∧ 8 + dN b + j ≤ min 128 b := by simp [okS]
theorem chk_ok {b j : Int} (h : okS b j = true) : chkE b j = 0 := by unfold chkE; rw [if_pos h]
theorem chk_no {b j : Int} (h : okS b j = false) : chkE b j = 110 := by unfold chkE; rw [h]; rfl
theorem okS_no {b j : Int} (h : ¬ (1 ≤ b ∧ b ≤ 8192 ∧ 16 ≤ j ∧ j ≤ 64 ∧ 16 ≤ lastL b ∧ 8 + dN b + j ≤ min 128 b)) : okS b j = false := by
  cases hq : okS b j with
  | false => rfl
  | true => exact absurd (okS_iff.1 hq) h
theorem gN_rng {b : Int} (h1 : 1 ≤ b) (h2 : b ≤ 8192) : 1 ≤ gN b ∧ gN b ≤ 64 := by unfold gN; omega
theorem dN_rng {b : Int} (h1 : 1 ≤ b) (h2 : b ≤ 8192) : 1 ≤ dN b ∧ dN b ≤ 4 := by have := gN_rng h1 h2; unfold dN; omega
/-- Where a group's bitmap of blocks stands. -/
def gMap (b g : Int) : Int := if g = 0 then 1 + dN b else 128 * g
/-- Where what may be allocated of a group begins. -/
def gData (b j g : Int) : Int := if g = 0 then 7 + dN b + j else 128 * g + 6
/-- How many blocks a group has. -/
def gLen (b g : Int) : Int := min 128 (b - 128 * g)
/-- A group's six numbers. -/
def grpA (b j g : Int) : Array Value := #[.int .i64 (128 * g), .int .i64 (gLen b g), .int .i64 (gMap b g), .int .i64 (gMap b g + 1), .int .i64 (gMap b g + 2), .int .i64 (gData b j g)]
/-- The group that is answered with an error. -/
def grp0 : Array Value := #[.int .i64 0, .int .i64 0, .int .i64 0, .int .i64 0, .int .i64 0, .int .i64 0]
/-- Which group is answered: its error, its six numbers. -/
def grpE (b j g : Int) : Int := if okS b j then (if 0 ≤ g ∧ g < gN b then 0 else 1) else 110
def grpV (b j g : Int) : Array Value := if grpE b j g = 0 then grpA b j g else grp0
/-- How many groups there are. -/
def grpsN (b j : Int) : Int := if okS b j then gN b else 0
def descsN (b j : Int) : Int := if okS b j then dN b else 0
def jnlN (b j : Int) : Int := if okS b j then 7 + dN b else 0
end Go.Proofs.Ytbimcdaplnmjdaa
