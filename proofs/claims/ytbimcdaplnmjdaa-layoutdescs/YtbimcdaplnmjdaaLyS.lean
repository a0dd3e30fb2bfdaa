/-
  Superblocks as plain bytes.
-/
import Derived.Test.YtbimcdaplnmjdaaLyPlan
import Derived.Test.YtbimcdaplnmjdaaLyCopy
import Derived.Test.YtbimcdaplnmjdaaFields
import Derived.Test.YtbimcdaplnmjdaaSeal
namespace Go.Proofs.Ytbimcdaplnmjdaa
open Go.RowKit
def wsS : List Int := [32, 32, 16, 8, 32, 64]
def clN (cl : Bool) : Nat := if cl then 1 else 0
def vsS (b j : Nat) (cl : Bool) (o m : Nat) : List Nat := [1397508432, b, j, clN cl, o, m]
theorem clN_le (cl : Bool) : clN cl ≤ 1 := by cases cl <;> decide
theorem wsS_ok : widthOk wsS = true := by decide +kernel
theorem wsS_bytes : bytesW wsS = 23 := by decide +kernel
theorem packS_ok {b j o m : Nat} (cl : Bool) (h1 : b < 4294967296) (h2 : j < 65536) (h3 : o < 4294967296) (h4 : m < 18446744073709551616) : packOk wsS (vsS b j cl o m) = true := by
  unfold packOk
  rw [wsS_ok, Bool.true_and, fitB_iff]
  refine ⟨rfl, fun i hi => ?_⟩
  have hc := clN_le cl
  match i, hi with
  | 0, _ => show (1397508432 : Nat) < 4294967296; decide
  | 1, _ => exact h1
  | 2, _ => exact h2
  | 3, _ => show clN cl < 256; omega
  | 4, _ => exact h3
  | 5, _ => exact h4
theorem vsS_lim {b j o m : Nat} (cl : Bool) (h1 : b < 4294967296) (h2 : j < 65536) (h3 : o < 4294967296) (h4 : m < 18446744073709551616) : ∀ x ∈ vsS b j cl o m, x < 18446744073709551616 := by
  have hc := clN_le cl
  intro x hx
  simp only [vsS, List.mem_cons, List.not_mem_nil, or_false] at hx
  rcases hx with h | h | h | h | h | h <;> omega
theorem packL_length {ws : List Int} {vs : List Nat} (h : packOk ws vs = true) : (packL ws vs).length = bytesW ws := by
  unfold packL; rw [if_pos h, packTo_length, List.length_replicate]
theorem packL_byte (ws : List Int) (vs : List Nat) : ∀ x ∈ packL ws vs, x < 256 := by
  unfold packL
  split
  · exact packTo_byte (fun x hx => by rw [List.eq_of_mem_replicate hx]; decide) _
  · simp
/-- The error of a superblock that is encoded. -/
def supE (b j o m : Int) : Int := if okS b j then (if 0 ≤ o ∧ o ≤ 16 * gN b ∧ 0 ≤ m ∧ m ≤ 1152921504606846976 then 0 else 1) else 110
/-- The bytes ahead of the seal. -/
def supB (b j : Nat) (cl : Bool) (o m : Nat) : List Nat := packL wsS (vsS b j cl o m) ++ List.replicate 229 0
/-- The bytes of a superblock. -/
def supL (b j o : Int) (cl : Bool) (m : Int) : List Nat := if supE b j o m = 0 then sealL (supB b.toNat j.toNat cl o.toNat m.toNat) else []
theorem supE_no {b j o m : Int} (h : okS b j = false) : supE b j o m = 110 := by unfold supE; rw [h]; rfl
theorem supE_far {b j o m : Int} (h : okS b j = true) (hf : ¬ (0 ≤ o ∧ o ≤ 16 * gN b ∧ 0 ≤ m ∧ m ≤ 1152921504606846976)) : supE b j o m = 1 := by unfold supE; rw [if_pos h, if_neg hf]
theorem supE_ok {b j o m : Int} (h : okS b j = true) (hf : 0 ≤ o ∧ o ≤ 16 * gN b ∧ 0 ≤ m ∧ m ≤ 1152921504606846976) : supE b j o m = 0 := by unfold supE; rw [if_pos h, if_pos hf]
theorem supL_no {b j o m : Int} {cl : Bool} (h : ¬ supE b j o m = 0) : supL b j o cl m = [] := by unfold supL; rw [if_neg h]
theorem supL_ok {b j o m : Int} {cl : Bool} (h : supE b j o m = 0) : supL b j o cl m = sealL (supB b.toNat j.toNat cl o.toNat m.toNat) := by unfold supL; rw [if_pos h]
theorem supE_zero {b j o m : Int} (h : supE b j o m = 0) : okS b j = true ∧ 0 ≤ o ∧ o ≤ 16 * gN b ∧ 0 ≤ m ∧ m ≤ 1152921504606846976 := by
  cases hok : okS b j with
  | false => rw [supE_no hok] at h; cases h
  | true =>
    by_cases hf : 0 ≤ o ∧ o ≤ 16 * gN b ∧ 0 ≤ m ∧ m ≤ 1152921504606846976
    · exact ⟨rfl, hf⟩
    · rw [supE_far hok hf] at h; cases h
theorem supB_byte (b j : Nat) (cl : Bool) (o m : Nat) : ∀ x ∈ supB b j cl o m, x < 256 := by
  intro x hx
  rcases List.mem_append.1 hx with h | h
  · exact packL_byte _ _ x h
  · rw [List.eq_of_mem_replicate h]; decide
theorem supB_length {b j o m : Nat} (cl : Bool) (h1 : b < 4294967296) (h2 : j < 65536) (h3 : o < 4294967296) (h4 : m < 18446744073709551616) : (supB b j cl o m).length = 252 := by
  unfold supB
  rw [List.length_append, packL_length (packS_ok cl h1 h2 h3 h4), wsS_bytes, List.length_replicate]
theorem lay_pad {ys : List Nat} (h : ys.length = 23) : layAt (List.replicate 252 0) ys 0 252 = ys ++ List.replicate 229 0 := by
  unfold layAt
  rw [h, show min 252 23 = 23 from rfl, List.take_of_length_le (Nat.le_of_eq h), List.take_zero, List.nil_append, Nat.zero_add, List.drop_replicate]
theorem seal252 {xs : List Nat} (h : xs.length = 252) : sealE xs = 0 := by unfold sealE; rw [h]; rfl
end Go.Proofs.Ytbimcdaplnmjdaa
