/-
  What seal.Open answers.
-/
import Derived.Test.YtdbfddbdkjbcpaaState
namespace Go.Proofs.Ytdbfddbdkjbcpaa
open Go.RowKit
/-- What Open answers beside State's error. -/
def openL (xs : List Nat) : List Nat := if stateL xs = 0 then xs.take (xs.length - 4) else []
theorem state_okL {ys : List Nat} (h : stateL ys = 0) : 4 ≤ ys.length ∧ ys.length ≤ 1048580 ∧ ys.drop (ys.length - 4) = cnt (ys.take (ys.length - 4)) := by
  unfold stateL at h
  split at h
  · simp at h
  · split at h
    · assumption
    · simp at h
theorem open_any (p : Option Addr) (n c : Nat) (xs : List Nat) (w : World) (hx : In w p n c xs) :
    Calls Try.prog 12 #[.slice p n c] w fun e w' => ∃ p' n' c', e = .returned (.tuple #[.slice p' n' c', .int .i64 (stateL xs)]) ∧ In w' p' n' c' (openL xs) ∧ Below w.heap.size w w' := by
  have hroom := hx.room
  have HX : Hid (xs.length = n) := hx.len
  obtain ⟨i0, hi, hz0, hz1, hz2⟩ := info_parts info5
  by_cases hs : stateL xs = 0
  · obtain ⟨h4, h5, _⟩ := state_okL hs
    rw [hx.len] at h4 h5
    have HS : Hid (stateL xs = 0) := hs
    have HO : Hid (openL xs = xs.take (n - 4)) := by show _ = _; unfold openL; rw [if_pos hs, HX.out]
    clear hs
    obtain ⟨k, rfl⟩ : ∃ k, n = k + 4 := ⟨n - 4, by omega⟩
    go_enter Try.func12, Try.ntmps12
    go_wp2_with fail
    refine (state_any p (k + 4) c xs _ hx).mono ?_
    rintro e w1 ⟨rfl, hb1⟩
    rw [HS.out]
    have hx1 := hx.below hb1
    go_wp2_with (at_make; refine wpList_make_full _ rfl _ _ 22 rfl w1.heap.size 5 i0 (.int .u8 0) 1 Try.underlying22 hi hz0 hz1 .i64 .i64 _ _ k rfl rfl (by omega) (by omega) (by rw [hz2]; omega) (by unfold maxLen; omega) (Nat.le_refl _) ?_; intro w2 hown2 hgrow2; obtain ⟨w3, hcp, hown3, hbel3⟩ := copy_run (Nat.le_refl _) (made_block hown2) (below_grown0 hgrow2) (hx1.below (below_grown0 hgrow2)) (show k ≤ k + 4 by omega) (by unfold maxLen; omega))
    go_ret2
    obtain ⟨p', c', hv, hin⟩ := in_of_owns hown3 (fun x hxm => hx.byte x (List.mem_of_mem_take hxm)) (by omega)
    cases hv
    rw [HO.out, HS.out, show k + 4 - 4 = k from by omega]
    exact ⟨_, _, _, rfl, hin, hb1.trans (hbel3.mono hb1.size)⟩
  · have hne : (stateL xs != 0) = true := by rw [bne_iff_ne]; exact hs
    have HO : Hid (openL xs = []) := by show _ = _; unfold openL; rw [if_neg hs]
    clear hs
    go_enter Try.func12, Try.ntmps12
    go_wp2_with fail
    refine (state_any p n c xs _ hx).mono ?_
    rintro e w1 ⟨rfl, hb1⟩
    go_wp2
    go_ret2
    rw [HO.out]
    exact ⟨_, _, _, rfl, In.empty _, hb1⟩
end Go.Proofs.Ytdbfddbdkjbcpaa
