/-
  What seal's getBits answers.
-/
import Derived.Test.YtgeomfgfeemciaaPack
namespace Go.Proofs.Ytgeomfgfeemciaa
open Go.RowKit
/-- The bit at place i of a list of bytes, the first byte's highest bit first. -/
def bitAt (xs : List Nat) (i : Nat) : Bool := (xs.getD (i / 8) 0).testBit (7 - i % 8)
def bn (b : Bool) : Nat := if b then 1 else 0
/-- The first t bits from place p on, as a number. -/
def getN (xs : List Nat) (p : Nat) : Nat → Nat
  | 0 => 0
  | t + 1 => 2 * getN xs p t + bn (bitAt xs (p + t))
theorem bn_le (b : Bool) : bn b ≤ 1 := by cases b <;> simp [bn]
theorem getN_lt (xs : List Nat) (p t : Nat) : getN xs p t < 2 ^ t := by
  induction t with
  | zero => simp [getN]
  | succ t ih => have := bn_le (bitAt xs (p + t)); rw [getN, Nat.pow_succ]; omega
theorem getN_63 (xs : List Nat) (p t : Nat) (h : t < 64) : getN xs p t ≤ 9223372036854775807 := by
  have h1 := getN_lt xs p t
  have h2 : 2 ^ t ≤ 2 ^ 63 := Nat.pow_le_pow_right (by decide) (by omega)
  omega
theorem getN_64 (xs : List Nat) (p t : Nat) (h : t ≤ 64) : getN xs p t < 18446744073709551616 := by
  have h1 := getN_lt xs p t
  have h2 : 2 ^ t ≤ 2 ^ 64 := Nat.pow_le_pow_right (by decide) h
  omega
theorem get_bit (x s : Nat) (hx : x < 256) : bits .and .u8 ((x : Int) / 2 ^ s) 1 = ((bn (x.testBit s) : Nat) : Int) := by
  have hd : x / 2 ^ s < 256 := Nat.lt_of_le_of_lt (Nat.div_le_self _ _) hx
  rw [shr_nat, show (1 : Int) = ((1 : Nat) : Int) from rfl, u8_and_nat _ _ hd (by decide), Nat.and_one_is_mod, Nat.testBit_eq_decide_div_mod_eq]
  unfold bn
  by_cases h : x / 2 ^ s % 2 = 1
  · rw [if_pos (by simpa using h)]; omega
  · rw [if_neg (by simpa using h)]; omega
theorem or_low (a b : Nat) (ha : a ≤ 9223372036854775807) (hb : b ≤ 1) : bits .or .u64 ((a : Int) * 2) (b : Int) = ((2 * a + b : Nat) : Int) := by
  rw [show ((a : Int) * 2) = ((2 * a : Nat) : Int) from by omega, bits_or_u64_nat _ _ (by omega) (by omega)]
  have := Nat.two_pow_add_eq_or_of_lt (i := 1) (b := b) (by omega) a
  rw [show 2 ^ 1 * a = 2 * a from by omega] at this
  rw [this]
theorem get_step (xs : List Nat) (hx : ∀ x ∈ xs, x < 256) (p k : Nat) (hk : k < 64) :
    bits .or .u64 ((getN xs p k : Int) * 2) (IntKind.u64.wrap (bits .and .u8 (el xs ((p + k) / 8) / 2 ^ (7 - (p + k) % 8)) 1)) = ((getN xs p (k + 1) : Nat) : Int) := by
  have hr := el_range hx ((p + k) / 8)
  unfold el at hr ⊢
  rw [get_bit _ _ (by omega)]
  have hb := bn_le ((xs.getD ((p + k) / 8) 0).testBit (7 - (p + k) % 8))
  rw [IntKind.wrap_u64, show ((bn ((xs.getD ((p + k) / 8) 0).testBit (7 - (p + k) % 8)) : Nat) : Int) % 18446744073709551616 = ((bn ((xs.getD ((p + k) / 8) 0).testBit (7 - (p + k) % 8)) : Nat) : Int) from by omega]
  rw [or_low _ _ (getN_63 xs p k hk) hb]
  rfl
theorem getBits_any (q : Option Addr) (n c : Nat) (xs : List Nat) (p width : Nat) (w : World) (hx : In w q n c xs) (hw : width ≤ 64) (hfit : p + width ≤ 8 * n) :
    Calls Try.prog 57 #[.slice q n c, .int .i64 p, .int .i64 width] w fun e w' => e = .returned (.int .u64 (getN xs p width)) ∧ w' = w := by
  have hroom := hx.room
  go_enter Try.func57, Try.ntmps57
  go_wp2
  go_loop [7, 11] (fun v i => ∃ k : Nat, k ≤ width ∧ i = .int .i64 k ∧ v = .int .u64 (getN xs p k)) (fun _ i => width - (intOf i).toNat)
  case atStart => exact ⟨0, Nat.zero_le _, rfl, rfl⟩
  case round =>
    obtain ⟨k, hk, rfl, rfl⟩ := hrel
    by_cases hlt : k < width
    · have hq : (p + k) / 8 < n := by omega
      obtain ⟨b, o, rfl, hb, hc⟩ := hx.at' (by omega)
      have hck := hc ((p + k) / 8) hq
      have hg := getN_63 xs p k (by omega)
      clear hc
      have HS : Hid (bits .or .u64 ((getN xs p k : Int) * 2) (IntKind.u64.wrap (bits .and .u8 (el xs ((p + k) / 8) / 2 ^ (7 - (p + k) % 8)) 1)) = ((getN xs p (k + 1) : Nat) : Int)) := get_step xs hx.byte p k (by omega)
      go_wp2
      go_round
      case rel => exact ⟨k + 1, by omega, by go_num, val_int HS.out⟩
      case measure => simp [intOf]; omega
    · have hkw : k = width := by omega
      subst hkw
      go_wp2
      go_ret
      exact ⟨rfl, rfl⟩
end Go.Proofs.Ytgeomfgfeemciaa
