/-
  Bits of bytes, plain: which bit is 1, a bit turned, a bit made 1; bytes told by their bits.
-/
import Derived.Test.YthpbeppfiinooaaOwn
namespace Go.Proofs.Ythpbeppfiinooaa
open Go.RowKit
/-- Whether the bit i is 1. -/
def bitL (xs : List Nat) (i : Nat) : Bool := (xs.getD (i / 8) 0).testBit (i % 8)
/-- The bit i turned. -/
def flipL (xs : List Nat) (i : Nat) : List Nat := xs.set (i / 8) (xs.getD (i / 8) 0 ^^^ 2 ^ (i % 8))
/-- The bit i made 1. -/
def orL (xs : List Nat) (i : Nat) : List Nat := xs.set (i / 8) (xs.getD (i / 8) 0 ||| 2 ^ (i % 8))
theorem flipL_length (xs : List Nat) (i : Nat) : (flipL xs i).length = xs.length := by simp [flipL]
theorem orL_length (xs : List Nat) (i : Nat) : (orL xs i).length = xs.length := by simp [orL]
theorem pow8 (t : Nat) (h : t < 8) : 2 ^ t < 256 := by
  have : t = 0 ∨ t = 1 ∨ t = 2 ∨ t = 3 ∨ t = 4 ∨ t = 5 ∨ t = 6 ∨ t = 7 := by omega
  rcases this with rfl | rfl | rfl | rfl | rfl | rfl | rfl | rfl <;> decide
theorem getD_byte {xs : List Nat} (h : ∀ x ∈ xs, x < 256) (i : Nat) : xs.getD i 0 < 256 := by
  have := el_range h i; unfold el at this; omega
theorem flipL_byte {xs : List Nat} (h : ∀ x ∈ xs, x < 256) (i : Nat) : ∀ x ∈ flipL xs i, x < 256 := by
  intro x hx
  rcases List.mem_or_eq_of_mem_set hx with h' | h'
  · exact h x h'
  · rw [h']; exact Nat.xor_lt_two_pow (n := 8) (getD_byte h _) (pow8 _ (by omega))
theorem orL_byte {xs : List Nat} (h : ∀ x ∈ xs, x < 256) (i : Nat) : ∀ x ∈ orL xs i, x < 256 := by
  intro x hx
  rcases List.mem_or_eq_of_mem_set hx with h' | h'
  · exact h x h'
  · rw [h']; exact Nat.or_lt_two_pow (n := 8) (getD_byte h _) (pow8 _ (by omega))
theorem flipL_bit {xs : List Nat} {i : Nat} (h : i / 8 < xs.length) (j : Nat) : bitL (flipL xs i) j = if j = i then !bitL xs i else bitL xs j := by
  unfold bitL flipL
  by_cases hq : j / 8 = i / 8
  · rw [hq]
    simp only [List.getD_eq_getElem?_getD, List.getElem?_set_self h, Option.getD_some, Nat.testBit_xor, Nat.testBit_two_pow]
    by_cases hj : j = i
    · subst hj; simp
    · have : ¬ i % 8 = j % 8 := by omega
      simp [hj, this]
  · have hj : j ≠ i := by intro e; exact hq (by rw [e])
    simp only [List.getD_eq_getElem?_getD, List.getElem?_set_ne (Ne.symm hq), if_neg hj]
theorem orL_bit {xs : List Nat} {i : Nat} (h : i / 8 < xs.length) (j : Nat) : bitL (orL xs i) j = if j = i then true else bitL xs j := by
  unfold bitL orL
  by_cases hq : j / 8 = i / 8
  · rw [hq]
    simp only [List.getD_eq_getElem?_getD, List.getElem?_set_self h, Option.getD_some, Nat.testBit_or, Nat.testBit_two_pow]
    by_cases hj : j = i
    · subst hj; simp
    · have : ¬ i % 8 = j % 8 := by omega
      simp [hj, this]
  · have hj : j ≠ i := by intro e; exact hq (by rw [e])
    simp only [List.getD_eq_getElem?_getD, List.getElem?_set_ne (Ne.symm hq), if_neg hj]
theorem vals_set (xs : List Nat) (j x : Nat) : vals (xs.set j x) = (vals xs).set j (.int .u8 (x : Int)) := by simp [vals, List.map_set]
/-- 256 bytes whose bits are as f says. -/
structure Bm (ys : List Nat) (f : Nat → Bool) : Prop where
  len : ys.length = 256
  byte : ∀ x ∈ ys, x < 256
  bit : ∀ i, i < 2048 → bitL ys i = f i
theorem Bm.ext {a b : List Nat} {f g : Nat → Bool} (ha : Bm a f) (hb : Bm b g) (h : ∀ i, i < 2048 → f i = g i) : a = b := by
  apply List.ext_getElem
  · rw [ha.len, hb.len]
  · intro q h1 h2
    apply Nat.eq_of_testBit_eq
    intro t
    have la := ha.len
    by_cases ht : t < 8
    · have e := (ha.bit (q * 8 + t) (by omega)).trans ((h _ (by omega)).trans (hb.bit (q * 8 + t) (by omega)).symm)
      unfold bitL at e
      rw [show (q * 8 + t) / 8 = q by omega, show (q * 8 + t) % 8 = t by omega] at e
      simpa [h1, h2] using e
    · have p : 2 ^ 8 ≤ 2 ^ t := Nat.pow_le_pow_right (by decide) (by omega)
      have x1 := ha.byte _ (List.getElem_mem h1)
      have x2 := hb.byte _ (List.getElem_mem h2)
      rw [Nat.testBit_lt_two_pow (by omega), Nat.testBit_lt_two_pow (by omega)]
theorem Bm.self {ys : List Nat} (hl : ys.length = 256) (hb : ∀ x ∈ ys, x < 256) : Bm ys (bitL ys) := ⟨hl, hb, fun _ _ => rfl⟩
theorem Bm.flip {ys : List Nat} {f : Nat → Bool} (h : Bm ys f) {i : Nat} (hi : i < 2048) : Bm (flipL ys i) (fun j => if j = i then !f i else f j) := by
  refine ⟨by rw [flipL_length]; exact h.len, flipL_byte h.byte i, fun j hj => ?_⟩
  rw [flipL_bit (by rw [h.len]; omega), h.bit i hi]
  split
  · rfl
  · exact h.bit j hj
theorem Bm.or {ys : List Nat} {f : Nat → Bool} (h : Bm ys f) {i : Nat} (hi : i < 2048) : Bm (orL ys i) (fun j => if j = i then true else f j) := by
  refine ⟨by rw [orL_length]; exact h.len, orL_byte h.byte i, fun j hj => ?_⟩
  rw [orL_bit (by rw [h.len]; omega)]
  split
  · rfl
  · exact h.bit j hj
theorem Bm.of {ys : List Nat} {f g : Nat → Bool} (h : Bm ys f) (e : ∀ i, i < 2048 → f i = g i) : Bm ys g := ⟨h.len, h.byte, fun i hi => (h.bit i hi).trans (e i hi)⟩
theorem zero_bitN (n i : Nat) : bitL (List.replicate n 0) i = false := by
  unfold bitL
  rw [List.getD_eq_getElem?_getD]
  by_cases h : i / 8 < n
  · rw [List.getElem?_eq_getElem (by rw [List.length_replicate]; exact h), List.getElem_replicate, Option.getD_some, Nat.zero_testBit]
  · rw [List.getElem?_eq_none (by rw [List.length_replicate]; exact Nat.le_of_not_lt h), Option.getD_none, Nat.zero_testBit]
theorem Bm.zero : Bm (List.replicate 256 0) (fun _ => false) := ⟨List.length_replicate, fun x hx => by rw [(List.mem_replicate.1 hx).2]; decide, fun i _ => zero_bitN 256 i⟩
/-- '&' with a mask, as the walk says it. -/
theorem and_bit (x k : Nat) (hx : x < 256) (hk : k < 8) : (bits .and .u8 (x : Int) (1 * 2 ^ k % 256) != 0) = x.testBit k := by
  have hp := pow8 k hk
  have e : ((1 : Int) * 2 ^ k % 256) = ((2 ^ k : Nat) : Int) := by
    have e2 : ((2 : Int) ^ k) = ((2 ^ k : Nat) : Int) := by simp
    rw [e2]
    generalize 2 ^ k = T at hp ⊢
    omega
  rw [e, u8_and_nat _ _ hx hp]
  cases hb : x.testBit k with
  | true =>
    have : x &&& 2 ^ k ≠ 0 := by
      intro z
      have := congrArg (fun y => y.testBit k) z
      simp [hb] at this
    generalize x &&& 2 ^ k = T at this ⊢
    simp only [bne_iff_ne, ne_eq]
    omega
  | false =>
    have : x &&& 2 ^ k = 0 := by
      apply Nat.eq_of_testBit_eq
      intro t
      rw [Nat.testBit_and, Nat.testBit_two_pow, Nat.zero_testBit]
      by_cases ht : k = t
      · subst ht; simp [hb]
      · simp [ht]
    rw [this]; rfl
theorem xor_bit (x k : Nat) (hx : x < 256) (hk : k < 8) : bits .xor .u8 (x : Int) (1 * 2 ^ k % 256) = ((x ^^^ 2 ^ k : Nat) : Int) := by
  have hp := pow8 k hk
  have e : ((1 : Int) * 2 ^ k % 256) = ((2 ^ k : Nat) : Int) := by
    have e2 : ((2 : Int) ^ k) = ((2 ^ k : Nat) : Int) := by simp
    rw [e2]
    generalize 2 ^ k = T at hp ⊢
    omega
  rw [e, u8_xor_nat _ _ hx hp]
theorem or_bit (x k : Nat) (hx : x < 256) (hk : k < 8) : bits .or .u8 (x : Int) (1 * 2 ^ k % 256) = ((x ||| 2 ^ k : Nat) : Int) := by
  have hp := pow8 k hk
  have e : ((1 : Int) * 2 ^ k % 256) = ((2 ^ k : Nat) : Int) := by
    have e2 : ((2 : Int) ^ k) = ((2 ^ k : Nat) : Int) := by simp
    rw [e2]
    generalize 2 ^ k = T at hp ⊢
    omega
  rw [e, u8_or_nat _ _ hx hp]
theorem shr_bit (x k : Nat) : (decide ((x : Int) / 2 ^ k % 2 = 1)) = x.testBit k := by
  rw [Nat.testBit_eq_decide_div_mod_eq]
  have e2 : ((2 : Int) ^ k) = ((2 ^ k : Nat) : Int) := by simp
  rw [e2]
  generalize 2 ^ k = T
  apply decide_eq_decide.2
  omega
end Go.Proofs.Ythpbeppfiinooaa
