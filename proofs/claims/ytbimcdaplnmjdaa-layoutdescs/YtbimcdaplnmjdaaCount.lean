/-
  What seal's count and erased answer.
-/
import Derived.Test.YtbimcdaplnmjdaaOwn
import Derived.Test.YtbimcdaplnmjdaaZeros
namespace Go.Proofs.Ytbimcdaplnmjdaa
open Go.RowKit
/-- Zeros in four bytes, the highest one first. -/
def cntZ (z : Nat) : List Nat := [z / 16777216 % 256, z / 65536 % 256, z / 256 % 256, z % 256]
theorem cntZ_byte (z : Nat) : ∀ x ∈ cntZ z, x < 256 := by
  intro x hx
  simp only [cntZ, List.mem_cons, List.not_mem_nil, or_false] at hx
  omega
def cnt (xs : List Nat) : List Nat := cntZ (zeros xs)
theorem count_any (p : Option Addr) (n c : Nat) (xs : List Nat) (w : World) (hx : In w p n c xs) (hn : n ≤ 1048576) :
    Calls Try.prog 70 #[.slice p n c] w fun e w' => ∃ p' c', e = .returned (.slice p' 4 c') ∧ In w' p' 4 c' (cnt xs) ∧ Below w.heap.size w w' := by
  have hz := zeros_le xs
  rw [hx.len] at hz
  go_enter Try.func70, Try.ntmps70
  go_wp2_with (go_at_call 75; refine (zeros_any _ _ _ _ _ hx).mono ?_; rintro e w' ⟨rfl, rfl⟩)
  go_ret
  refine ⟨_, _, rfl, in_lit _ ?_ rfl ?_ (by decide), below_alloc _ _⟩
  · simp only [cnt, cntZ, vals, List.map_cons, List.map_nil]
    have e1 : ((zeros xs : Int) / 16777216) = ((zeros xs / 16777216 % 256 : Nat) : Int) := by omega
    have e2 : ((zeros xs : Int) / 65536) = ((zeros xs / 65536 % 256 : Nat) : Int) := by omega
    have e3 : ((zeros xs : Int) / 256 % 256) = ((zeros xs / 256 % 256 : Nat) : Int) := by omega
    have e4 : ((zeros xs : Int) % 256) = ((zeros xs % 256 : Nat) : Int) := by omega
    rw [e1, e2, e3, e4]
  · exact cntZ_byte _
/-- Whether there are bytes, and all their bits are 1. -/
def erasedL (xs : List Nat) : Bool := decide (0 < xs.length) && xs.all (· == 255)
theorem all_iff (xs : List Nat) : xs.all (· == 255) = true ↔ ∀ j, j < xs.length → xs.getD j 0 = 255 := by
  rw [List.all_eq_true]
  constructor
  · intro h j hj
    have := h _ (List.getElem_mem hj)
    simpa [hj] using this
  · intro h x hx
    obtain ⟨j, hj, rfl⟩ := List.getElem_of_mem hx
    have := h j hj
    simpa [hj] using this
end Go.Proofs.Ytbimcdaplnmjdaa
