/-
  What seal.Seal answers.
-/
import Derived.Test.YtbimcdaplnmjdaaCount
namespace Go.Proofs.Ytbimcdaplnmjdaa
open Go.RowKit
/-- The error of Seal: 3 is ErrLong. -/
def sealE (xs : List Nat) : Int := if 1048576 < xs.length then 3 else 0
/-- What Seal answers beside it. -/
def sealL (xs : List Nat) : List Nat := if 1048576 < xs.length then [] else xs ++ cnt xs
theorem In.ofNone {w : World} {p : Option Addr} {n c : Nat} {xs : List Nat} (h : In w p n c xs) (hp : p = none) : n = 0 ∧ c = 0 := by
  have := h.nil hp; have := h.cap; omega
theorem seal_any (p : Option Addr) (n c : Nat) (xs : List Nat) (w : World) (hx : In w p n c xs) :
    Calls Try.prog 57 #[.slice p n c] w fun e w' => ∃ p' n' c', e = .returned (.tuple #[.slice p' n' c', .int .i64 (sealE xs)]) ∧ In w' p' n' c' (sealL xs) ∧ Below w.heap.size w w' := by
  have hroom := hx.room
  have HX : Hid (xs.length = n) := hx.len
  obtain ⟨i0, hi, hz0, hz1, hz2⟩ := info_parts info5
  by_cases hl : 1048576 < n
  · have h1 : (1048576 : Int) < (n : Int) := by omega
    go_enter Try.func57, Try.ntmps57
    go_wp2
    go_ret2
    have e1 : sealE xs = 3 := by unfold sealE; rw [if_pos (by rw [HX.out]; exact hl)]
    have e2 : sealL xs = [] := by unfold sealL; rw [if_pos (by rw [HX.out]; exact hl)]
    rw [e1, e2]
    exact ⟨_, _, _, rfl, In.empty _, Below.refl _ _⟩
  · have h1 : ¬ (1048576 : Int) < (n : Int) := by omega
    go_enter Try.func57, Try.ntmps57
    go_wp2_with (first
      | (at_make; refine wpList_make_own _ rfl _ _ 44 rfl w.heap.size 5 i0 (.int .u8 0) 1 Try.underlying44 hi hz0 hz1 .i64 .i64 _ (n + 4) rfl rfl (by omega) (by rw [hz2]; omega) (by unfold maxLen; omega) (Nat.le_refl _) ?_; intro w1 hown1 hgrow1; have hbel1 := below_grown0 hgrow1)
      | (at_builtin; refine wpList_append_fits_any _ rfl (.tmp 12) (.tmp 13) 44 rfl w.heap.size 5 i0 1 Try.underlying44 hi hz1 w.heap.size 0 (n + 4) [] rfl hown1 p n c (vals xs) rfl (by rw [vals_length, HX.out, Nat.mul_one]) hx.ofNone (fun ad ha => (hx.below hbel1).cells ha) (vals_one xs) (by omega) ?_; intro w2 hown2 hgrow2))
    have hbel2 : Below w.heap.size w w2 := hbel1.grown hgrow2 hbel1.size (fun k hk => by cases hk; exact Nat.le_refl _)
    rw [Nat.zero_add, List.nil_append] at hown2
    refine (count_any p n c xs w2 (hx.below hbel2) (by omega)).mono ?_
    rintro e w3 ⟨p3, c3, rfl, hin3, hbel3⟩
    have hown3 := owns_below hown2 hbel3
    have hbel3' : Below w.heap.size w w3 := hbel2.trans (hbel3.mono hbel2.size)
    have hc4 : (cnt xs).length = 4 := rfl
    clear hown1 hown2 hgrow1 hgrow2 hbel1 hbel2 hbel3
    go_wp2_with (at_builtin; refine wpList_append_fits_any _ rfl (.tmp 15) (.tmp 17) 44 rfl w.heap.size 5 i0 1 Try.underlying44 hi hz1 w.heap.size n (n + 4) (vals xs) rfl hown3 p3 4 c3 (vals (cnt xs)) rfl (by rw [vals_length]; rfl) hin3.ofNone (fun ad ha => hin3.cells ha) (vals_one _) (by omega) ?_; intro w4 hown4 hgrow4)
    go_ret2
    rw [← vals_append] at hown4
    obtain ⟨p', c', hv, hin⟩ := in_of_owns hown4 (by intro x hxm; rcases List.mem_append.1 hxm with h | h; exact hx.byte x h; exact cntZ_byte _ x h) (by omega)
    have e1 : sealE xs = 0 := by unfold sealE; rw [if_neg (by rw [HX.out]; exact hl)]
    have e2 : sealL xs = xs ++ cnt xs := by unfold sealL; rw [if_neg (by rw [HX.out]; exact hl)]
    rw [e1, e2]
    cases hv
    exact ⟨_, _, _, rfl, hin, hbel3'.grown hgrow4 hbel3'.size (fun k hk => by cases hk; exact Nat.le_refl _)⟩
end Go.Proofs.Ytbimcdaplnmjdaa
