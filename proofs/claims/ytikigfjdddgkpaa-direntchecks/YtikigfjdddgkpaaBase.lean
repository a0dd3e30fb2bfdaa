/-
  What a slice of bytes in memory holds, and the plain functions that the texts of this seat speak of.
-/
import Derived.Test.YtikigfjdddgkpaaProg
import Derived.WalkKit
import Derived.WalkSpells
import Derived.Lib.BitFns
import Derived.Laws.CopyOwn
import Derived.Laws.AppendOwnNone
import Derived.Deep.DeepFit
import Derived.Deep.QuietTactic
import Derived.BigQuiet
namespace Go.Proofs.Ytikigfjdddgkpaa
open Go.RowKit

/-- The number at place i of a list of bytes. -/
def el (xs : List Nat) (i : Nat) : Int := ((xs.getD i 0 : Nat) : Int)

/-- A slice of bytes that lies in a world: its bytes are xs. -/
structure In (w : World) (p : Option Addr) (n c : Nat) (xs : List Nat) : Prop where
  len : xs.length = n
  cap : n ≤ c
  max : c ≤ maxLen
  room : n ≤ 140737488355328
  byte : ∀ x ∈ xs, x < 256
  at' : 0 < n → ∃ b o, p = some ⟨b, o, none⟩ ∧ b < w.heap.size ∧ ∀ i, i < n → w.cell? ⟨b, o + i, none⟩ = some (.int .u8 (el xs i))
  nil : p = none → c = 0

theorem el_range {xs : List Nat} (h : ∀ x ∈ xs, x < 256) (i : Nat) : 0 ≤ el xs i ∧ el xs i ≤ 255 := by
  unfold el
  by_cases hi : i < xs.length
  · have := h _ (List.getElem_mem hi)
    simp only [List.getD_eq_getElem?_getD, List.getElem?_eq_getElem hi, Option.getD_some]
    omega
  · simp only [List.getD_eq_getElem?_getD, List.getElem?_eq_none (Nat.le_of_not_lt hi), Option.getD_none]
    omega

theorem In.range {w p n c xs} (h : In w p n c xs) (i : Nat) : 0 ≤ el xs i ∧ el xs i ≤ 255 := el_range h.byte i

theorem In.below {w w' p n c xs} (h : In w p n c xs) (hb : Below w.heap.size w w') : In w' p n c xs :=
  ⟨h.len, h.cap, h.max, h.room, h.byte, fun h0 => by
    obtain ⟨b, o, hp, hlt, hc⟩ := h.at' h0
    exact ⟨b, o, hp, Nat.lt_of_lt_of_le hlt hb.size, fun i hi => (hb.cell (p := ⟨b, o + i, none⟩) hlt).trans (hc i hi)⟩, h.nil⟩

theorem In.empty (w : World) : In w none 0 0 [] := ⟨rfl, Nat.le_refl _, Nat.zero_le _, Nat.zero_le _, fun _ h => by simp at h, fun h => by omega, fun _ => rfl⟩

theorem ret_int {k : IntKind} {a b : Int} (h : a = b) : Ending.returned (.int k a) = .returned (.int k b) := by rw [h]
theorem val_int {k : IntKind} {a b : Int} (h : a = b) : Value.int k a = Value.int k b := by rw [h]
theorem val_bool {a b : Bool} (h : a = b) : Value.bool a = Value.bool b := by rw [h]
theorem ret_bool {a b : Bool} (h : a = b) : Ending.returned (.bool a) = .returned (.bool b) := by rw [h]

theorem below_drewN {B : Nat} {a w : World} (h : Below B a w) (n : Nat) : Below B a (w.drewN n) := ⟨h.os, h.tape, h.output, h.size, h.block⟩

/-- How many of a byte's eight bits are 0. -/
def zb (x : Nat) : Nat := 8 - Lib.onesCount x
/-- How many bits are 0. -/
def zeros (xs : List Nat) : Nat := (xs.map zb).sum

theorem zb_le (x : Nat) : zb x ≤ 8 := Nat.sub_le _ _
theorem zeros_nil : zeros [] = 0 := rfl
theorem zeros_append (a b : List Nat) : zeros (a ++ b) = zeros a + zeros b := by simp [zeros]
theorem zeros_le (xs : List Nat) : zeros xs ≤ 8 * xs.length := by
  induction xs with
  | nil => simp [zeros]
  | cons x r ih => have := zb_le x; simp [zeros] at ih ⊢; omega
theorem take_succ_getD (xs : List Nat) (k : Nat) (h : k < xs.length) : xs.take (k + 1) = xs.take k ++ [xs.getD k 0] := by
  rw [List.take_succ_eq_append_getElem h]; simp [h]
theorem zeros_take_succ (xs : List Nat) (k : Nat) (h : k < xs.length) : zeros (xs.take (k + 1)) = zeros (xs.take k) + zb (xs.getD k 0) := by
  rw [take_succ_getD xs k h, zeros_append]; simp [zeros]
end Go.Proofs.Ytikigfjdddgkpaa
