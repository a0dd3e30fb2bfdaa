/-
  Settled where it refuses: the program's, and the reference's.
-/
import Derived.Test.YtfgelncfmopibaaSnSet
namespace Go.Proofs.Ytfgelncfmopibaa
open Go.RowKit
set_option linter.unusedSimpArgs false in
set_option maxHeartbeats 4000000 in
theorem settled_no (P : Int) (p : Option Addr) (n c : Nat) (blk : Int) (w : World) (hn : n ≤ 1000000) (h : ¬ (4 ≤ P ∧ P ≤ 32) ∨ n % P.toNat ≠ 0 ∨ blk < 0 ∨ ((n / P.toNat : Nat) : Int) ≤ blk) :
    Calls Try.prog 21 #[.int .i64 P, .slice p n c, .int .i64 blk] w fun e w' => e = .returned (.tuple #[.int .i64 0, .bool false]) ∧ Below w.heap.size w w' := by
  have hpm := fun w => pagesMayBe_any P w
  have hnI : (n : Int) ≤ 1000000 := by omega
  by_cases hP : 4 ≤ P ∧ P ≤ 32
  · obtain ⟨hP1, hP2⟩ := hP
    have hpe : pmB P = true := by simp [pmB]; omega
    rw [hpe] at hpm
    obtain ⟨Q, rfl⟩ : ∃ Q : Nat, P = (Q : Int) := ⟨P.toNat, by omega⟩
    rw [Int.toNat_natCast] at h
    have hp0 : ¬ (Q : Int) = 0 := by omega
    obtain ⟨r, hr⟩ : ∃ r, r = n % Q := ⟨_, rfl⟩
    obtain ⟨m, hm⟩ : ∃ m, m = n / Q := ⟨_, rfl⟩
    have htm : (n : Int).tmod (Q : Int) = (r : Int) := by rw [hr]; rfl
    have hem : (n : Int) % (Q : Int) = (r : Int) := by rw [hr]; rfl
    have hdv : (n : Int) / (Q : Int) = (m : Int) := by rw [hm]; rfl
    have hmn : m ≤ n := by rw [hm]; exact Nat.div_le_self n Q
    rw [← hr, ← hm] at h
    have hmI : (m : Int) ≤ 1000000 := by omega
    clear hr hm
    by_cases hr0 : r = 0
    · subst hr0
      by_cases hb : blk < 0
      · go_enter Try.func21, Try.ntmps21
        go_wp2_with (go_at_call 44; refine (hpm _).mono ?_; rintro e w1 ⟨rfl, hw1⟩; have hw2 := hw1.symm; subst hw2; clear hw1)
        go_ret2
        exact ⟨rfl, Below.refl _ _⟩
      · have hle : (m : Int) ≤ blk := by omega
        clear h
        go_enter Try.func21, Try.ntmps21
        go_wp2_with (go_at_call 44; refine (hpm _).mono ?_; rintro e w1 ⟨rfl, hw1⟩; have hw2 := hw1.symm; subst hw2; clear hw1)
        go_ret2
        exact ⟨rfl, Below.refl _ _⟩
    · have hrn : ((r : Int) != 0) = true := by rw [bne_iff_ne]; omega
      clear h hr0
      go_enter Try.func21, Try.ntmps21
      go_wp2_with (go_at_call 44; refine (hpm _).mono ?_; rintro e w1 ⟨rfl, hw1⟩; have hw2 := hw1.symm; subst hw2; clear hw1)
      go_ret2
      exact ⟨rfl, Below.refl _ _⟩
  · have hpe : pmB P = false := by
      cases e : pmB P with
      | false => rfl
      | true => simp [pmB] at e; exact absurd e hP
    rw [hpe] at hpm
    clear h hP
    go_enter Try.func21, Try.ntmps21
    go_wp2_with (go_at_call 44; refine (hpm _).mono ?_; rintro e w1 ⟨rfl, hw1⟩; have hw2 := hw1.symm; subst hw2; clear hw1)
    go_ret2
    exact ⟨rfl, Below.refl _ _⟩
set_option linter.unusedSimpArgs false in
set_option maxHeartbeats 4000000 in
theorem settledR_no (P : Int) (p : Option Addr) (n c : Nat) (blk : Int) (w : World) (hn : n ≤ 1000000) (h : ¬ (4 ≤ P ∧ P ≤ 32) ∨ n % P.toNat ≠ 0 ∨ blk < 0 ∨ ((n / P.toNat : Nat) : Int) ≤ blk) :
    Calls Try.prog 22 #[.int .i64 P, .slice p n c, .int .i64 blk] w fun e w' => e = .returned (.tuple #[.int .i64 0, .bool false]) ∧ Below w.heap.size w w' := by
  have hnI : (n : Int) ≤ 1000000 := by omega
  by_cases h4 : P < 4
  · go_enter Try.func22, Try.ntmps22
    go_wp2
    go_ret2
    exact ⟨rfl, Below.refl _ _⟩
  by_cases h5 : 32 < P
  · go_enter Try.func22, Try.ntmps22
    go_wp2
    go_ret2
    exact ⟨rfl, Below.refl _ _⟩
  by_cases hP : 4 ≤ P ∧ P ≤ 32
  · obtain ⟨hP1, hP2⟩ := hP
    obtain ⟨Q, rfl⟩ : ∃ Q : Nat, P = (Q : Int) := ⟨P.toNat, by omega⟩
    rw [Int.toNat_natCast] at h
    have hp0 : ¬ (Q : Int) = 0 := by omega
    obtain ⟨r, hr⟩ : ∃ r, r = n % Q := ⟨_, rfl⟩
    obtain ⟨m, hm⟩ : ∃ m, m = n / Q := ⟨_, rfl⟩
    have htm : (n : Int).tmod (Q : Int) = (r : Int) := by rw [hr]; rfl
    have hem : (n : Int) % (Q : Int) = (r : Int) := by rw [hr]; rfl
    have hdv : (n : Int) / (Q : Int) = (m : Int) := by rw [hm]; rfl
    have hmn : m ≤ n := by rw [hm]; exact Nat.div_le_self n Q
    rw [← hr, ← hm] at h
    have hmI : (m : Int) ≤ 1000000 := by omega
    clear hr hm
    by_cases hr0 : r = 0
    · subst hr0
      by_cases hb : blk < 0
      · go_enter Try.func22, Try.ntmps22
        go_wp2
        go_ret2
        exact ⟨rfl, Below.refl _ _⟩
      · have hle : (m : Int) ≤ blk := by omega
        clear h
        go_enter Try.func22, Try.ntmps22
        go_wp2
        go_ret2
        exact ⟨rfl, Below.refl _ _⟩
    · have hrn : ((r : Int) != 0) = true := by rw [bne_iff_ne]; omega
      clear h hr0
      go_enter Try.func22, Try.ntmps22
      go_wp2
      go_ret2
      exact ⟨rfl, Below.refl _ _⟩
  · exact absurd ⟨by omega, by omega⟩ hP
end Go.Proofs.Ytfgelncfmopibaa
