/-
  Plain facts on bytes: which byte has all 1 bits of another one, and what that does to the count of 0 bits.
-/
import Derived.Test.YtikigfjdddgkpaaBase
import Derived.Laws.BitsAllLaws
namespace Go.Proofs.Ytikigfjdddgkpaa
/-- now has all 1 bits of was. -/
def cov1 (now was : Nat) : Bool := (now ||| was) == now
def bz (b : Bool) : Nat := if b then 0 else 1
def zbits (x : Nat) : Nat := bz (x.testBit 0) + bz (x.testBit 1) + bz (x.testBit 2) + bz (x.testBit 3) + bz (x.testBit 4) + bz (x.testBit 5) + bz (x.testBit 6) + bz (x.testBit 7)
theorem zb_bits : ∀ n : Fin 256, zb n.val = zbits n.val := by decide +kernel
theorem zb_eq (x : Nat) (h : x < 256) : zb x = zbits x := zb_bits ⟨x, h⟩
theorem cov1_bit {x y : Nat} (h : cov1 x y = true) (i : Nat) (hy : y.testBit i = true) : x.testBit i = true := by
  have e : (x ||| y) = x := by simpa [cov1] using h
  rw [← e, Nat.testBit_or, hy, Bool.or_true]
theorem cov1_of_bit {x y : Nat} (h : ∀ i, y.testBit i = true → x.testBit i = true) : cov1 x y = true := by
  have e : (x ||| y) = x := by
    apply Nat.eq_of_testBit_eq
    intro i
    rw [Nat.testBit_or]
    cases hy : y.testBit i with
    | false => simp
    | true => simp [h i hy]
  simpa [cov1] using e
theorem bz_le {a b : Bool} (h : b = true → a = true) : bz a ≤ bz b := by
  cases a <;> cases b <;> simp_all [bz]
theorem bz_inj {a b : Bool} (h : bz a = bz b) : a = b := by
  cases a <;> cases b <;> simp_all [bz]
theorem cov1_zb {x y : Nat} (hx : x < 256) (hy : y < 256) (h : cov1 x y = true) : zb x ≤ zb y ∧ (zb x = zb y → x = y) := by
  have b0 := bz_le (cov1_bit h 0); have b1 := bz_le (cov1_bit h 1); have b2 := bz_le (cov1_bit h 2); have b3 := bz_le (cov1_bit h 3)
  have b4 := bz_le (cov1_bit h 4); have b5 := bz_le (cov1_bit h 5); have b6 := bz_le (cov1_bit h 6); have b7 := bz_le (cov1_bit h 7)
  rw [zb_eq x hx, zb_eq y hy]
  unfold zbits
  refine ⟨by omega, fun e => Nat.eq_of_testBit_eq fun i => ?_⟩
  by_cases hi : i < 8
  · have : i = 0 ∨ i = 1 ∨ i = 2 ∨ i = 3 ∨ i = 4 ∨ i = 5 ∨ i = 6 ∨ i = 7 := by omega
    rcases this with rfl | rfl | rfl | rfl | rfl | rfl | rfl | rfl <;> exact bz_inj (by omega)
  · have p : 2 ^ 8 ≤ 2 ^ i := Nat.pow_le_pow_right (by decide) (by omega)
    rw [Nat.testBit_lt_two_pow (by omega), Nat.testBit_lt_two_pow (by omega)]
theorem cov1_le {x y : Nat} (h : cov1 x y = true) : y ≤ x := by
  have e : (x ||| y) = x := by simpa [cov1] using h
  have : y ≤ x ||| y := Nat.right_le_or
  omega
theorem cov1_or (x m : Nat) : cov1 (x ||| m) x = true := cov1_of_bit fun i h => by rw [Nat.testBit_or, h, Bool.true_or]
theorem cov1_refl (x : Nat) : cov1 x x = true := cov1_of_bit fun _ h => h
/-- 'was &^ now != 0', as the walk says it. -/
theorem andNot_cov (x y : Int) (hx : 0 ≤ x ∧ x ≤ 255) (hy : 0 ≤ y ∧ y ≤ 255) : (bits .andNot .u8 y x != 0) = !(cov1 x.toNat y.toNat) := by
  rw [u8_andNot y x hy.1 (by omega) hx.1 (by omega)]
  have hX : x.toNat < 2 ^ 8 := by omega
  have hY : y.toNat < 2 ^ 8 := by omega
  generalize x.toNat = X at *
  generalize y.toNat = Y at *
  have e : 255 - X = 2 ^ 8 - (X + 1) := by omega
  cases hc : cov1 X Y with
  | true =>
    have z : Y &&& (255 - X) = 0 := by
      apply Nat.eq_of_testBit_eq
      intro i
      rw [Nat.testBit_and, e, Nat.testBit_two_pow_sub_succ hX, Nat.zero_testBit]
      cases hy : Y.testBit i with
      | false => simp
      | true => simp [cov1_bit hc i hy]
    rw [z]; rfl
  | false =>
    have z : Y &&& (255 - X) ≠ 0 := by
      intro z
      have : cov1 X Y = true := cov1_of_bit fun i hi => by
        have t : (Y &&& (255 - X)).testBit i = false := by rw [z, Nat.zero_testBit]
        rw [Nat.testBit_and, e, Nat.testBit_two_pow_sub_succ hX, hi] at t
        have l : i < 8 := by
          rcases Nat.lt_or_ge i 8 with h | h
          · exact h
          · have p : 2 ^ 8 ≤ 2 ^ i := Nat.pow_le_pow_right (by decide) h
            rw [Nat.testBit_lt_two_pow (by omega)] at hi; simp at hi
        simpa [l] using t
      rw [this] at hc; simp at hc
    simp only [bne_iff_ne, ne_eq, Bool.not_false]
    omega
/-- Whether one list of bytes has as many bytes as another one, and all its 1 bits. -/
def covers (now was : List Nat) : Bool := (now.length == was.length) && (List.range now.length).all fun i => cov1 (now.getD i 0) (was.getD i 0)
theorem covers_iff (now was : List Nat) : covers now was = true ↔ now.length = was.length ∧ ∀ i, i < now.length → cov1 (now.getD i 0) (was.getD i 0) = true := by
  simp [covers]
theorem el_toNat (xs : List Nat) (i : Nat) : (el xs i).toNat = xs.getD i 0 := by simp [el]
end Go.Proofs.Ytikigfjdddgkpaa
