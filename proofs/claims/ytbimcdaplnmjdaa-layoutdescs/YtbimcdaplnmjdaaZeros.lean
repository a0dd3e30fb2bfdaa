/-
  What OnesCount8 and seal.Zeros answer.
-/
import Derived.Test.YtbimcdaplnmjdaaBase
namespace Go.Proofs.Ytbimcdaplnmjdaa
open Go.RowKit
theorem ones8_any (x : Int) (w : World) (h0 : 0 ≤ x) (h1 : x ≤ 255) :
    Calls Try.prog 78 #[.int .u8 x] w fun e w' => e = .returned (.int .i64 (8 - (zb x.toNat : Int))) ∧ w' = w := by
  have hp := Lib.pop8_int x h0 h1
  have hl := Lib.onesCount_le8 ⟨x.toNat, by omega⟩
  have e : wrap64 (Lib.pop8 x) = 8 - (zb x.toNat : Int) := by
    unfold wrap64 zb; simp only at hl; omega
  have E : Hid (wrap64 (Lib.pop8 x) = 8 - (zb x.toNat : Int)) := e
  clear hp hl e
  go_enter Try.func78, Try.ntmps78
  go_wp2
  go_ret
  refine ⟨?_, rfl⟩
  show Ending.returned (.int .i64 (wrap64 (Lib.pop8 x))) = _
  rw [E.out]

theorem zeros_any (p : Option Addr) (n c : Nat) (xs : List Nat) (w : World) (h : In w p n c xs) :
    Calls Try.prog 75 #[.slice p n c] w fun e w' => e = .returned (.int .i64 (zeros xs)) ∧ w' = w := by
  have hroom := h.room
  have hlen := h.len
  have HL : Hid (xs.length = n) := hlen
  clear hlen
  go_enter Try.func75, Try.ntmps75
  go_wp2
  go_loop [3, 7] (fun m i => ∃ k : Nat, k ≤ n ∧ i = .int .i64 k ∧ m = .int .i64 (zeros (xs.take k))) (fun _ i => n - (intOf i).toNat)
  case atStart => exact ⟨0, Nat.zero_le _, rfl, rfl⟩
  case round =>
    obtain ⟨k, hk, rfl, rfl⟩ := hrel
    have hz : zeros (xs.take k) ≤ 8 * k := Nat.le_trans (zeros_le _) (Nat.mul_le_mul_left _ (List.length_take_le _ _))
    by_cases hlt : k < n
    · obtain ⟨b, o, rfl, hb, hc⟩ := h.at' (by omega)
      have hck := hc k hlt
      have hr := h.range k
      have hs := zeros_take_succ xs k (by rw [HL.out]; exact hlt)
      have hzb := zb_le (xs.getD k 0)
      have HS : Hid (zeros (xs.take (k + 1)) = zeros (xs.take k) + zb (el xs k).toNat) := by rw [hs]; rfl
      have hzb' : zb (el xs k).toNat ≤ 8 := zb_le _
      clear hs hc hzb
      go_wp2_with (go_at_call 78; refine (ones8_any _ _ hr.1 hr.2).mono ?_; rintro e w' ⟨rfl, rfl⟩)
      go_round
      case rel => exact ⟨k + 1, by omega, by go_num, val_int (by rw [HS.out]; omega)⟩
      case measure => simp [intOf]; omega
    · go_wp2
      go_ret
      exact ⟨ret_int (by rw [List.take_of_length_le (by rw [HL.out]; omega)]), rfl⟩
end Go.Proofs.Ytbimcdaplnmjdaa
