/-
  What slipwayref01's Zeros answers.
-/
import Derived.Test.YtbimcdaplnmjdaaBits
import Derived.Test.YtbimcdaplnmjdaaFit
namespace Go.Proofs.Ytbimcdaplnmjdaa
open Go.RowKit
/-- How many of the first t bits of x are 0. -/
def zpart (x : Nat) : Nat → Nat
  | 0 => 0
  | t + 1 => zpart x t + bz (x.testBit t)
theorem zpart_all (x : Nat) (h : x < 256) : zpart x 8 = zb x := by
  rw [zb_eq x h]; simp [zpart, zbits]
theorem bz_le1 (b : Bool) : bz b ≤ 1 := by cases b <;> simp [bz]
theorem zpart_le (x t : Nat) : zpart x t ≤ t := by
  induction t with
  | zero => simp [zpart]
  | succ t ih => have := bz_le1 (x.testBit t); simp only [zpart]; omega
theorem bit_test (x t : Nat) (hx : x < 256) : (bits .and .u8 ((x : Int) / 2 ^ t) 1 == 0) = !(x.testBit t) := by
  have hd : x / 2 ^ t < 256 := Nat.lt_of_le_of_lt (Nat.div_le_self _ _) hx
  rw [shr_nat, show (1 : Int) = ((1 : Nat) : Int) from rfl, u8_and_nat _ _ hd (by decide), Nat.and_one_is_mod, Nat.testBit_eq_decide_div_mod_eq]
  by_cases h : x / 2 ^ t % 2 = 1
  · rw [h]; rfl
  · have : x / 2 ^ t % 2 = 0 := by omega
    rw [this]; rfl
/-- The count at byte k, bit t. -/
def zat (xs : List Nat) (k t : Nat) : Nat := zeros (xs.take k) + zpart (xs.getD k 0) t
theorem zat_zero (xs : List Nat) (k : Nat) : zat xs k 0 = zeros (xs.take k) := rfl
theorem zat_le (xs : List Nat) (k t : Nat) : zat xs k t ≤ 8 * k + t := by
  have h1 : zeros (xs.take k) ≤ 8 * k := Nat.le_trans (zeros_le _) (Nat.mul_le_mul_left _ (List.length_take_le _ _))
  have h2 := zpart_le (xs.getD k 0) t
  unfold zat; omega
theorem zat_succ (xs : List Nat) (k t : Nat) : zat xs k (t + 1) = zat xs k t + bz ((xs.getD k 0).testBit t) := by
  unfold zat; rw [zpart]; omega
theorem zat_all (xs : List Nat) (k : Nat) (hk : k < xs.length) (hx : ∀ x ∈ xs, x < 256) : zat xs k 8 = zeros (xs.take (k + 1)) := by
  have := el_range hx k
  unfold zat
  rw [zeros_take_succ xs k hk, zpart_all _ (by unfold el at this; omega)]
theorem refZeros_any (p : Option Addr) (n c : Nat) (xs : List Nat) (w : World) (h : In w p n c xs) :
    Calls Try.prog 72 #[.slice p n c] w fun e w' => e = .returned (.int .i64 (zeros xs)) ∧ w' = w := by
  have hroom := h.room
  have HL : Hid (xs.length = n) := h.len
  go_enter Try.func72, Try.ntmps72
  go_wp2
  go_loop [3, 4] (fun m i => ∃ k : Nat, k ≤ n ∧ i = .int .i64 k ∧ m = .int .i64 (zeros (xs.take k))) (fun _ i => n - (intOf i).toNat)
  case atStart => exact ⟨0, Nat.zero_le _, rfl, rfl⟩
  case round =>
    obtain ⟨k, hk, rfl, rfl⟩ := hrel
    have hz : zeros (xs.take k) ≤ 8 * k := Nat.le_trans (zeros_le _) (Nat.mul_le_mul_left _ (List.length_take_le _ _))
    by_cases hlt : k < n
    · obtain ⟨b, o, rfl, hb, hc⟩ := h.at' (by omega)
      have hck := hc k hlt
      have HS : Hid (zeros (xs.take (k + 1)) = zeros (xs.take k) + zb (xs.getD k 0)) := zeros_take_succ xs k (by rw [HL.out]; exact hlt)
      clear hc
      go_wp2
      have HZ8 : Hid (zat xs k 8 = zeros (xs.take (k + 1))) := zat_all xs k (by rw [HL.out]; exact hlt) h.byte
      go_loop [3, 5] (fun m i => ∃ t : Nat, t ≤ 8 ∧ i = .int .i64 t ∧ m = .int .i64 (zat xs k t)) (fun _ i => 8 - (intOf i).toNat)
      case atStart => exact ⟨0, Nat.zero_le _, rfl, rfl⟩
      case round =>
        obtain ⟨t, ht, rfl, rfl⟩ := hrel
        have hzp := zat_le xs k t
        by_cases htl : t < 8
        · have HB : Hid ((bits .and .u8 (el xs k / 2 ^ t) 1 == 0) = !((xs.getD k 0).testBit t)) := bit_test _ t (by have := h.range k; unfold el at this; omega)
          have HS : Hid (zat xs k (t + 1) = zat xs k t + bz ((xs.getD k 0).testBit t)) := zat_succ xs k t
          go_wp2
          · rename_i hb1
            have hf : (xs.getD k 0).testBit t = false := by rw [HB.out] at hb1; simpa using hb1
            go_round
            case rel => exact ⟨t + 1, by omega, by go_num, val_int (by rw [HS.out, hf]; simp [bz])⟩
            case measure => simp [intOf]; omega
          · rename_i hb1
            have hf : (xs.getD k 0).testBit t = true := by rw [HB.out] at hb1; simpa using hb1
            go_round
            case rel => exact ⟨t + 1, by omega, by go_num, val_int (by rw [HS.out, hf]; simp [bz])⟩
            case measure => simp [intOf]; omega
        · have ht8 : t = 8 := by omega
          subst ht8
          go_wp2
          go_round
          case rel => exact ⟨k + 1, by omega, by go_num, val_int (by rw [HZ8.out])⟩
          case measure => simp [intOf]; omega
    · go_wp2
      go_ret
      exact ⟨ret_int (by rw [List.take_of_length_le (by rw [HL.out]; omega)]), rfl⟩
end Go.Proofs.Ytbimcdaplnmjdaa
