/-
  What Run answers; how the found run is told by plain lists.
-/
import Derived.Test.YthpbeppfiinooaaBmB3
namespace Go.Proofs.Ythpbeppfiinooaa
open Go.RowKit Go.Shelf
/-- The goal, if it is one. -/
def goalN (N : Nat) (goal : Int) : Nat := if 0 ≤ goal ∧ goal < (N : Int) then goal.toNat else 0
theorem goalN_le {N : Nat} {goal : Int} (h : N ≤ 2048) : goalN N goal ≤ 2048 := by unfold goalN; split <;> omega
/-- What Run answers. -/
def runR (l : List Pie) (g : Nat) (wa : Int) : Int × Int :=
  if wa < 1 then (0, 0) else if (behR l g wa).2 = true then ((behR l g wa).1, wa) else if (aheR l g wa).2 = true then ((aheR l g wa).1, wa) else (((lonR l).1 : Int), ((lonR l).2 : Int))
theorem run_any (p : Option Addr) (m c : Nat) (xs : List Nat) (n goal wa : Int) (w : World) (h : In w p m c xs) :
    Calls Try.prog 24 #[.slice p m c, .int .i64 n, .int .i64 goal, .int .i64 wa] w fun e w' => e = .returned (.tuple #[.int .i64 (runR (runsL (bitL xs) (nOf xs n)) (goalN (nOf xs n) goal) wa).1, .int .i64 (runR (runsL (bitL xs) (nOf xs n)) (goalN (nOf xs n) goal) wa).2]) ∧ Below w.heap.size w w' := by
  by_cases hwa : wa < 1
  · rw [show runR (runsL (bitL xs) (nOf xs n)) (goalN (nOf xs n) goal) wa = (0, 0) from if_pos hwa]
    go_enter Try.func24, Try.ntmps24
    go_wp2
    go_ret2
    exact ⟨rfl, Below.refl _ _⟩
  · have hb := bitsOf_any p m c xs n w h
    have hle := nOf_le xs n
    have HM : Hid (0 < nOf xs n → m = 256) := fun h0 => by
      have hq := (chkB_iff xs n).1 (nOf_len h0)
      rw [← h.len]; exact hq.2.2.1
    generalize nOf xs n = N at *
    have HG : Hid (goalN N goal ≤ 2048) := goalN_le hle
    have HR : Hid (runR (runsL (bitL xs) N) (goalN N goal) wa = if (behR (runsL (bitL xs) N) (goalN N goal) wa).2 = true then ((behR (runsL (bitL xs) N) (goalN N goal) wa).1, wa) else if (aheR (runsL (bitL xs) N) (goalN N goal) wa).2 = true then ((aheR (runsL (bitL xs) N) (goalN N goal) wa).1, wa) else (((lonR (runsL (bitL xs) N)).1 : Int), ((lonR (runsL (bitL xs) N)).2 : Int))) := if_neg hwa
    rw [HR.out]
    have hgo : ∃ gd : Int, Hid (gd = (goalN N goal : Int)) ∧ ((goal < 0 ∨ ¬ goal < 0 ∧ (N : Int) ≤ goal) ∨ (¬ goal < 0 ∧ ¬ (N : Int) ≤ goal)) := ⟨_, rfl, by omega⟩
    have hin : ∀ W', Below w.heap.size w W' → 0 < N → m = 256 ∧ In W' p m c xs := fun W' hb h0 => ⟨HM.out h0, h.below hb⟩
    have hbe := fun W' hb => behind_any p m c xs N (goalN N goal) wa W' hle HG.out (hin W' hb)
    have hah := fun W' hb => ahead_any p m c xs N (goalN N goal) wa W' hle HG.out (hin W' hb)
    have hlo := fun W' hb => longest_any p m c xs N W' hle (hin W' hb)
    have HGN : Hid (goalN N goal = if 0 ≤ goal ∧ goal < (N : Int) then goal.toNat else 0) := rfl
    generalize goalN N goal = G at *
    generalize behR (runsL (bitL xs) N) G wa = B at *
    generalize aheR (runsL (bitL xs) N) G wa = A at *
    generalize lonR (runsL (bitL xs) N) = L at *
    obtain ⟨b1, b2⟩ := B
    obtain ⟨a1, a2⟩ := A
    obtain ⟨l1, l2⟩ := L
    clear HR hle hin HG hgo
    dsimp only at hbe hah hlo ⊢
    go_enter Try.func24, Try.ntmps24
    by_cases h0 : goal < 0
    · obtain rfl : G = 0 := by rw [HGN.out]; exact if_neg (by omega)
      clear HGN
      go_wp2_with fail
      refine hb.mono ?_
      rintro e w1 ⟨rfl, j, rfl⟩
      have k1 : Below w.heap.size w (w.drewN j) := below_drewN (Below.refl _ _) _
      go_wp2_with fail
      refine (hbe _ k1).mono ?_
      rintro e w2 ⟨rfl, hb2⟩
      have k2 := bt k1 hb2
      cases b2 with
      | true =>
        go_wp2
        go_ret2
        exact ⟨rfl, k2⟩
      | false =>
        go_wp2_with fail
        refine (hah _ k2).mono ?_
        rintro e w3 ⟨rfl, hb3⟩
        have k3 := bt k2 hb3
        cases a2 with
        | true =>
          go_wp2
          go_ret2
          exact ⟨rfl, k3⟩
        | false =>
          go_wp2_with fail
          refine (hlo _ k3).mono ?_
          rintro e w4 ⟨rfl, hb4⟩
          go_wp2
          go_ret2
          exact ⟨rfl, bt k3 hb4⟩
    · by_cases h1 : (N : Int) ≤ goal
      · obtain rfl : G = 0 := by rw [HGN.out]; exact if_neg (by omega)
        clear HGN
        go_wp2_with fail
        refine hb.mono ?_
        rintro e w1 ⟨rfl, j, rfl⟩
        have k1 : Below w.heap.size w (w.drewN j) := below_drewN (Below.refl _ _) _
        go_wp2_with fail
        refine (hbe _ k1).mono ?_
        rintro e w2 ⟨rfl, hb2⟩
        have k2 := bt k1 hb2
        cases b2 with
        | true =>
          go_wp2
          go_ret2
          exact ⟨rfl, k2⟩
        | false =>
          go_wp2_with fail
          refine (hah _ k2).mono ?_
          rintro e w3 ⟨rfl, hb3⟩
          have k3 := bt k2 hb3
          cases a2 with
          | true =>
            go_wp2
            go_ret2
            exact ⟨rfl, k3⟩
          | false =>
            go_wp2_with fail
            refine (hlo _ k3).mono ?_
            rintro e w4 ⟨rfl, hb4⟩
            go_wp2
            go_ret2
            exact ⟨rfl, bt k3 hb4⟩
      · obtain rfl : goal = (G : Int) := by rw [HGN.out, if_pos (by omega)]; omega
        clear HGN
        go_wp2_with fail
        refine hb.mono ?_
        rintro e w1 ⟨rfl, j, rfl⟩
        have k1 : Below w.heap.size w (w.drewN j) := below_drewN (Below.refl _ _) _
        go_wp2_with fail
        refine (hbe _ k1).mono ?_
        rintro e w2 ⟨rfl, hb2⟩
        have k2 := bt k1 hb2
        cases b2 with
        | true =>
          go_wp2
          go_ret2
          exact ⟨rfl, k2⟩
        | false =>
          go_wp2_with fail
          refine (hah _ k2).mono ?_
          rintro e w3 ⟨rfl, hb3⟩
          have k3 := bt k2 hb3
          cases a2 with
          | true =>
            go_wp2
            go_ret2
            exact ⟨rfl, k3⟩
          | false =>
            go_wp2_with fail
            refine (hlo _ k3).mono ?_
            rintro e w4 ⟨rfl, hb4⟩
            go_wp2
            go_ret2
            exact ⟨rfl, bt k3 hb4⟩
end Go.Proofs.Ythpbeppfiinooaa
