/-
  BitmapMakes returns true.
-/
import Derived.Test.YthpbeppfiinooaaBmBg
import Derived.Test.YthpbeppfiinooaaEqual
namespace Go.Proofs.Ythpbeppfiinooaa
open Go.RowKit
set_option maxRecDepth 100000 in
set_option maxHeartbeats 4000000 in
theorem makes_walk (p : Option Addr) (m c : Nat) (xs : List Nat) (n i : Int) (w : World) (h : In w p m c xs) :
    Calls Try.prog 3 #[.slice p m c, .int .i64 n, .int .i64 i] w fun e w' => e = .returned (.bool true) ∧ Below w.heap.size w w' := by
  obtain ⟨er, f, hn1, hn2⟩ : ∃ er f, Calls Try.prog 8 #[.int .i64 n] w (RetB w er f) ∧ ∀ w1, Calls Try.prog 9 #[.int .i64 n] w1 (RetB w1 er f) := by
    by_cases hq : 0 ≤ n ∧ n ≤ 2048
    · obtain ⟨k, rfl⟩ : ∃ k : Nat, n = (k : Int) := ⟨n.toNat, by omega⟩
      exact ⟨0, fFrom k, new_ok k w (by omega), fun w1 => rnew_ok k w1 (by omega)⟩
    · exact ⟨1, fFrom 0, new_no n w hq _, fun w1 => rnew_no n w1 hq _⟩
  go_enter Try.func3, Try.ntmps3
  go_wp2_with fail
  refine hn1.mono ?_
  rintro e w1 ⟨p1, n1, c1, ys, rfl, hin1, hm1, hb1⟩
  go_wp2_with fail
  refine (hn2 w1).mono ?_
  rintro e w2 ⟨p2, n2, c2, zs, rfl, hin2, hm2, hb2⟩
  have hyz : ys = zs := hm1.ext hm2 fun _ _ _ => rfl
  subst hyz
  have k2 := bt hb1 hb2
  go_wp2_with fail
  refine (begun_any w2).mono ?_
  rintro e w3 ⟨rfl, hb3⟩
  have k3 := bt k2 hb3
  go_wp2_with fail
  refine (equal_any p1 p2 n1 c1 n2 c2 ys ys w3 (hin1.below (bt hb2 hb3)) (hin2.below hb3)).mono ?_
  rintro e w' ⟨rfl, hw'⟩
  have hw2 := hw'.symm
  subst hw2
  clear hw'
  rw [show (ys == ys) = true from by simp]
  go_wp2_with fail
  refine (check_any p m c xs n w3 (h.below k3)).mono ?_
  rintro e w4 ⟨rfl, j4, rfl⟩
  have k4 : Below w.heap.size w (w3.drewN j4) := below_drewN k3 _
  go_wp2_with fail
  refine (rcheck_any p m c xs n _ (h.below k4)).mono ?_
  rintro e w' ⟨rfl, hw'⟩
  have hw2 := hw'.symm
  subst hw2
  clear hw'
  generalize chkE xs n = ce at *
  go_wp2_with fail
  refine (has_any p m c xs n i _ (h.below k4)).mono ?_
  rintro e w5 ⟨rfl, j5, rfl⟩
  have k5 : Below w.heap.size w (w3.drewN (j4 + j5)) := below_drewN k3 _
  go_wp2_with fail
  refine (rhas_any p m c xs n i _ (h.below k5)).mono ?_
  rintro e w6 ⟨rfl, hb6⟩
  have k6 := bt k5 hb6
  generalize hasB xs n i = hh at *
  go_wp2
  go_ret
  exact ⟨ret_bool (by simp), k6⟩
end Go.Proofs.Ythpbeppfiinooaa
