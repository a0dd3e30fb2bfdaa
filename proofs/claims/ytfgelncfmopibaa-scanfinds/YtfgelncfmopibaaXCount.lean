/-
  What seal's count and erased answer.
-/
import Derived.Test.YtfgelncfmopibaaXOwn
import Derived.Test.YtfgelncfmopibaaXZeros
namespace Go.Proofs.Ytfgelncfmopibaa.Pg
open Go.RowKit
/-- Zeros in four bytes, the highest one first. -/
def cntZ (z : Nat) : List Nat := [z / 16777216 % 256, z / 65536 % 256, z / 256 % 256, z % 256]
theorem cntZ_byte (z : Nat) : ∀ x ∈ cntZ z, x < 256 := by
  intro x hx
  simp only [cntZ, List.mem_cons, List.not_mem_nil, or_false] at hx
  omega
def cnt (xs : List Nat) : List Nat := cntZ (zeros xs)
theorem count_any (p : Option Addr) (n c : Nat) (xs : List Nat) (w : World) (hx : In w p n c xs) (hn : n ≤ 1048576) :
    Calls Try.prog 85 #[.slice p n c] w fun e w' => ∃ p' c', e = .returned (.slice p' 4 c') ∧ In w' p' 4 c' (cnt xs) ∧ Below w.heap.size w w' := by
  have hz := zeros_le xs
  rw [hx.len] at hz
  go_enter Try.func85, Try.ntmps85
  go_wp2_with (go_at_call 110; refine (zeros_any _ _ _ _ _ hx).mono ?_; rintro e w' ⟨rfl, rfl⟩)
  go_ret
  refine ⟨_, _, rfl, in_lit _ ?_ rfl ?_ (by decide), below_alloc _ _⟩
  · simp only [cnt, cntZ, vals, List.map_cons, List.map_nil]
    have e1 : ((zeros xs : Int) / 16777216) = ((zeros xs / 16777216 % 256 : Nat) : Int) := by omega
    have e2 : ((zeros xs : Int) / 65536) = ((zeros xs / 65536 % 256 : Nat) : Int) := by omega
    have e3 : ((zeros xs : Int) / 256 % 256) = ((zeros xs / 256 % 256 : Nat) : Int) := by omega
    have e4 : ((zeros xs : Int) % 256) = ((zeros xs % 256 : Nat) : Int) := by omega
    rw [e1, e2, e3, e4]
  · exact cntZ_byte _
/-- Whether there are bytes, and all their bits are 1. -/
def erasedL (xs : List Nat) : Bool := decide (0 < xs.length) && xs.all (· == 255)
theorem all_iff (xs : List Nat) : xs.all (· == 255) = true ↔ ∀ j, j < xs.length → xs.getD j 0 = 255 := by
  rw [List.all_eq_true]
  constructor
  · intro h j hj
    have := h _ (List.getElem_mem hj)
    simpa [hj] using this
  · intro h x hx
    obtain ⟨j, hj, rfl⟩ := List.getElem_of_mem hx
    have := h j hj
    simpa [hj] using this
theorem erased_any (p : Option Addr) (n c : Nat) (xs : List Nat) (w : World) (hx : In w p n c xs) :
    Calls Try.prog 83 #[.slice p n c] w fun e w' => e = .returned (.bool (erasedL xs)) ∧ w' = w := by
  have hroom := hx.room
  have HX : Hid (xs.length = n) := hx.len
  go_enter Try.func83, Try.ntmps83
  go_wp2
  go_loop [7] (fun i => ∃ k : Nat, k ≤ n ∧ i = .int .i64 k ∧ ∀ j, j < k → xs.getD j 0 = 255) (fun i => n - (intOf i).toNat)
  case atStart => exact ⟨0, Nat.zero_le _, rfl, fun j h => by omega⟩
  case round =>
    obtain ⟨k, hk, rfl, hall⟩ := hrel
    have HA : Hid (∀ j, j < k → xs.getD j 0 = 255) := hall
    clear hall
    by_cases hlt : k < n
    · obtain ⟨b, o, rfl, hb, hc⟩ := hx.at' (by omega)
      have hck := hc k hlt
      clear hc
      go_wp2
      · rename_i ht _
        go_ret
        refine ⟨ret_bool ?_, rfl⟩
        cases h : erasedL xs with
        | false => rfl
        | true =>
          have h2 : xs.all (· == 255) = true := by unfold erasedL at h; simp only [Bool.and_eq_true] at h; exact h.2
          have := (all_iff xs).1 h2 k (by rw [HX.out]; exact hlt)
          rw [bne_iff_ne] at ht
          exact absurd (show el xs k = 255 by unfold el; rw [this]; rfl) ht
      · rename_i _ ht
        have hf : xs.getD k 0 = 255 := by
          have := WalkArith.int_eq' ht
          unfold el at this; omega
        go_round
        case rel =>
          refine ⟨k + 1, by omega, by go_num, fun j hj => ?_⟩
          rcases Nat.lt_succ_iff_lt_or_eq.1 hj with h | h
          · exact HA.out j h
          · rw [h]; exact hf
        case measure => simp [intOf]; omega
    · go_wp2
      go_ret
      refine ⟨ret_bool ?_, rfl⟩
      have h2 : xs.all (· == 255) = true := (all_iff xs).2 fun j hj => HA.out j (by have := HX.out; omega)
      unfold erasedL
      rw [h2, HX.out, Bool.and_true]
end Go.Proofs.Ytfgelncfmopibaa.Pg
