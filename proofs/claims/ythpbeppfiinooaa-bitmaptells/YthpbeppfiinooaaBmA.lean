/-
  What mask, isSet, turn, mayHave and the reference's bit answer.
-/
import Derived.Test.YthpbeppfiinooaaBmP
import Derived.Deep.RegionHeld3
namespace Go.Proofs.Ythpbeppfiinooaa
open Go.RowKit
/-- A bit's place in its byte, as a number. -/
def mkI (i : Nat) : Int := 2 ^ (i % 8) % 256
theorem mkI_eq (i : Nat) : mkI i = 1 * 2 ^ (i % 8) % 256 := by unfold mkI; rw [Int.one_mul]
theorem mkI_rng (i : Nat) : 0 ≤ mkI i ∧ mkI i ≤ 255 := by unfold mkI; omega
theorem mask_any (i : Nat) (w : World) : Calls Try.prog 44 #[.int .i64 (i : Int)] w fun e w' => e = .returned (.int .u8 (mkI i)) ∧ w' = w := by
  go_enter Try.func44, Try.ntmps44
  go_wp2
  go_ret
  exact ⟨rfl, rfl⟩
theorem and_bitL {xs : List Nat} (h : ∀ x ∈ xs, x < 256) (i : Nat) : (bits .and .u8 (el xs (i / 8)) (mkI i) != 0) = bitL xs i := by
  rw [mkI_eq]; exact and_bit _ _ (getD_byte h _) (by omega)
theorem isSet_any (p : Option Addr) (n c : Nat) (xs : List Nat) (i : Nat) (w : World) (h : In w p n c xs) (hi : i < 8 * n) :
    Calls Try.prog 33 #[.slice p n c, .int .i64 (i : Int)] w fun e w' => e = .returned (.bool (bitL xs i)) ∧ ∃ j, w' = w.drewN j := by
  have hroom := h.room
  have hq : i / 8 < n := by omega
  obtain ⟨b, o, rfl, hb, hc⟩ := h.at' (by omega)
  have hck := hc (i / 8) hq
  have HA : Hid ((bits .and .u8 (el xs (i / 8)) (mkI i) != 0) = bitL xs i) := and_bitL h.byte i
  clear hc
  go_enter Try.func33, Try.ntmps33
  go_wp2
  go_quiet ((go_at_call 44; exact Calls.quiet_of_same (mask_any _ _)))
  go_wp2
  go_ret
  exact ⟨ret_bool HA.out, _, rfl⟩
theorem shr_bitL (xs : List Nat) (i : Nat) : (decide (el xs (i / 8) / 2 ^ (i % 8) % 2 = 1)) = bitL xs i := shr_bit _ _
theorem bit_any (p : Option Addr) (n c : Nat) (xs : List Nat) (i : Nat) (w : World) (h : In w p n c xs) (hi : i < 8 * n) :
    Calls Try.prog 34 #[.slice p n c, .int .i64 (i : Int)] w fun e w' => e = .returned (.bool (bitL xs i)) ∧ w' = w := by
  have hroom := h.room
  have hq : i / 8 < n := by omega
  obtain ⟨b, o, rfl, hb, hc⟩ := h.at' (by omega)
  have hck := hc (i / 8) hq
  have HA : Hid ((decide (el xs (i / 8) / 2 ^ (i % 8) % 2 = 1)) = bitL xs i) := shr_bitL xs i
  clear hc
  go_enter Try.func34, Try.ntmps34
  go_wp2
  trace_state
  go_ret
  exact ⟨ret_bool HA.out, rfl⟩
end Go.Proofs.Ythpbeppfiinooaa
