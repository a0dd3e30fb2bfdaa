/-
  slices.Contains of ints.
-/
import Derived.Test.YtdmnddikcpfmfaaCkMust
namespace Go.Proofs.Ytdmnddikcpfmfaa
open Go.RowKit
theorem in_list {xs : List Int} {k : Nat} {x : Int} (hk : k < xs.length) (h : eI xs k = x) : decide (x ∈ xs) = true := by
  rw [decide_eq_true_eq, ← h]; exact eI_mem hk
theorem not_in {xs : List Int} {x : Int} (h : ∀ i, i < xs.length → eI xs i ≠ x) : decide (x ∈ xs) = false := by
  rw [decide_eq_false_iff_not]
  intro hm
  obtain ⟨i, hi, rfl⟩ := List.mem_iff_getElem.1 hm
  exact h i hi (by simp [eI, hi])
set_option linter.unusedSimpArgs false in
set_option maxRecDepth 100000 in
set_option maxHeartbeats 4000000 in
theorem indexI_any (p : Option Addr) (n c : Nat) (xs : List Int) (x : Int) (w : World) (h : InI w p n c xs) :
    Calls Try.prog 53 #[.slice p n c, .int .i64 x] w fun e w' => ∃ i : Int, e = .returned (.int .i64 i) ∧ w' = w ∧ decide (0 ≤ i) = decide (x ∈ xs) := by
  have HL : Hid (xs.length = n) := h.len
  have hr := h.room
  go_enter Try.func53, Try.ntmps53
  go_wp2_with fail
  go_loopw [8] (fun i wr => ∃ k : Nat, k ≤ n ∧ i = .int .i64 k ∧ wr = w ∧ ∀ i, i < k → eI xs i ≠ x) (fun i _ => n - (intOf i).toNat)
  case atStart => exact ⟨0, Nat.zero_le _, rfl, rfl, fun i h => by omega⟩
  case round =>
    obtain ⟨k, hk, rfl, hwr, hall⟩ := hrel
    subst hwr
    have HA : Hid (∀ i, i < k → eI xs i ≠ x) := hall
    clear hall
    by_cases hlt : k < n
    · obtain ⟨b, o, hp, _, hcc⟩ := h.at' (by omega)
      have ck := hcc k hlt
      have hk1 : (k : Int) < (n : Int) := by omega
      rw [hp]
      clear hcc
      by_cases hx : eI xs k = x
      · have HD : Hid (decide (x ∈ xs) = true) := in_list (by rw [HL.out]; exact hlt) hx
        rw [hx] at ck
        clear hx
        go_wp2_with fail
        go_ret
        exact ⟨(k : Int), rfl, rfl, by rw [HD.out]; simp⟩
      · have HX : Hid (∀ i, i = k → eI xs i ≠ x) := fun i e => by rw [e]; exact hx
        have hx' : (x == eI xs k) = false := by rw [beq_eq_false_iff_ne]; exact fun e => hx e.symm
        clear hx
        generalize eI xs k = z at *
        go_wp2_with fail
        go_roundw
        case rel =>
          refine ⟨k + 1, by omega, by go_num, trivial, fun i hi => ?_⟩
          rcases Nat.lt_succ_iff_lt_or_eq.1 hi with h' | h'
          · exact HA.out i h'
          · exact HX.out i h'
        case measure => simp [intOf]; omega
    · obtain rfl : k = n := by omega
      have HD : Hid (decide (x ∈ xs) = false) := not_in (fun i hi => HA.out i (by rw [HL.out] at hi; exact hi))
      go_wp2_with fail
      go_ret
      exact ⟨-1, rfl, rfl, by rw [HD.out]; rfl⟩
theorem contains_any (p : Option Addr) (n c : Nat) (xs : List Int) (x : Int) (w : World) (h : InI w p n c xs) :
    Calls Try.prog 24 #[.slice p n c, .int .i64 x] w fun e w' => e = .returned (.bool (decide (x ∈ xs))) ∧ Below w.heap.size w w' := by
  have hi := indexI_any p n c xs x w h
  clear h
  go_enter Try.func24, Try.ntmps24
  go_wp2_with (go_at_call 53; refine hi.mono ?_; rintro e w1 ⟨i, rfl, rfl, hd⟩)
  go_ret
  exact ⟨rfl, Below.refl _ _⟩
end Go.Proofs.Ytdmnddikcpfmfaa
