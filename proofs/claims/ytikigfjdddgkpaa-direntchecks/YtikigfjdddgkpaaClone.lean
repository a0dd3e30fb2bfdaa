/-
  What bytes.Clone answers.
-/
import Derived.Test.YtikigfjdddgkpaaOwn
import Derived.Lib.LazyBuf
namespace Go.Proofs.Ytikigfjdddgkpaa
open Go.RowKit
theorem clone_any (p : Option Addr) (n c : Nat) (xs : List Nat) (w : World) (hx : In w p n c xs) :
    Calls Try.prog 25 #[.slice p n c] w fun e w' => ∃ p' c', e = .returned (.slice p' n c') ∧ In w' p' n c' xs ∧ Below w.heap.size w w' := by
  have hroom := hx.room
  have HX : Hid (xs.length = n) := hx.len
  obtain ⟨i0, hi, hz0, hz1, hz2⟩ := info_parts info5
  have hq := fun (w : World) => Lib.run_eql_slice_nil (P := Try.prog) w 22 5 p n c 0 0 Try.underlying22
  cases p with
  | none =>
    have h1 := hx.nil rfl
    have h2 := hx.cap
    have h3 : n = 0 := by omega
    subst h1
    subst h3
    go_enter Try.func25, Try.ntmps25
    go_wp2
    go_ret
    exact ⟨_, _, rfl, hx, Below.refl _ _⟩
  | some a =>
    have ho := World.ownsRow_lit (e := 5) (size := 1) (base := w.heap.size) w #[] 0 (Nat.le_refl _) (by unfold maxLen; omega) (by simp)
    have HO : Hid ((w.alloc (.cells #[] 5)).ownsRow w.heap.size 5 1 (.slice (some ⟨w.heap.size, 0, none⟩) 0 0) 0 []) := ho
    clear ho
    go_enter Try.func25, Try.ntmps25
    go_wp2_with (at_builtin; refine wpList_append_own _ rfl (.tmp 5) (.tmp 6) 22 rfl w.heap.size 5 i0 (.int .u8 0) 1 1 Try.underlying22 hi hz0 hz1 hz2 rfl (by decide) (.slice (some ⟨w.heap.size, 0, none⟩) 0 0) 0 [] rfl HO.out a n c (vals xs) rfl (by rw [vals_length, HX.out, Nat.mul_one]) ((hx.below (below_alloc _ _)).cells rfl) (vals_one xs) (by unfold maxLen; omega) (by omega) (by simp) ?_; intro v1 w1 hown1 hgrow1 _)
    go_ret
    rw [List.nil_append, Nat.zero_add] at hown1
    obtain ⟨p', c', hv, hin⟩ := in_of_owns hown1 hx.byte hroom
    exact ⟨p', c', congrArg Ending.returned hv, hin, (below_alloc w _).grown hgrow1 (by simp) (fun k hk => by simp [Value.ownBlock] at hk; omega)⟩
end Go.Proofs.Ytikigfjdddgkpaa
