/-
  BitmapTurns returns true.
-/
import Derived.Test.YthpbeppfiinooaaBmBg
import Derived.Test.YthpbeppfiinooaaEqual
import Derived.Test.YthpbeppfiinooaaClone
namespace Go.Proofs.Ythpbeppfiinooaa
open Go.RowKit
set_option maxRecDepth 100000 in
set_option maxHeartbeats 4000000 in
theorem turns_walk (p q : Option Addr) (m c m' c' : Nat) (xs zs : List Nat) (n a mm : Int) (w : World) (h : In w p m c xs) (h2 : In w q m' c' zs) (ha : a ≤ 9223372036854775807) (hmm : mm ≤ 9223372036854775807) :
    Calls Try.prog 4 #[.slice p m c, .slice q m' c', .int .i64 n, .int .i64 a, .int .i64 mm] w fun e w' => e = .returned (.bool true) ∧ Below w.heap.size w w' := by
  go_enter Try.func4, Try.ntmps4
  go_wp2_with fail
  refine (clone_any p m c xs w h).mono ?_
  rintro e w0 ⟨p0, c0, rfl, hin0, hb0⟩
  have s1 := set_any p m c xs n a mm w0 (h.below hb0) ha hmm
  go_wp2_with fail
  refine s1.mono ?_
  rintro e w1a ⟨p1, n1, c1, ys1, rfl, hi1, hm1, hb1⟩
  have k1 := bt hb0 hb1
  have t1 := rset_any p m c xs n a mm _ (h.below k1) ha hmm
  go_wp2_with fail
  refine t1.mono ?_
  rintro e w1b ⟨q1, l1, d1, zs1, rfl, hj1, hn1, hc1⟩
  have hyz : ys1 = zs1 := hm1.ext hn1 fun _ _ _ => rfl
  subst hyz
  have m1 := bt k1 hc1
  generalize setE xs n a mm false = er1 at *
  go_wp2_with fail
  refine (begun_any _).mono ?_
  rintro e w2 ⟨rfl, hb2⟩
  have k2 := bt m1 hb2
  go_wp2_with fail
  refine (equal_any p1 q1 n1 c1 l1 d1 ys1 ys1 w2 (hi1.below (bt hc1 hb2)) (hj1.below hb2)).mono ?_
  rintro e w' ⟨rfl, hw'⟩
  have hw2 := hw'.symm
  subst hw2
  clear hw'
  rw [show (ys1 == ys1) = true from by simp]
  have s3 := clear_any p m c xs n a mm w2 (h.below k2) ha hmm
  go_wp2_with fail
  refine s3.mono ?_
  rintro e w3a ⟨p3, n3, c3, ys3, rfl, hi3, hm3, hb3⟩
  have k3 := bt k2 hb3
  have t3 := rclear_any p m c xs n a mm _ (h.below k3) ha hmm
  go_wp2_with fail
  refine t3.mono ?_
  rintro e w3b ⟨q3, l3, d3, zs3, rfl, hj3, hn3, hc3⟩
  have hyz : ys3 = zs3 := hm3.ext hn3 fun _ _ _ => rfl
  subst hyz
  have m3 := bt k3 hc3
  generalize setE xs n a mm true = er3 at *
  go_wp2_with fail
  refine (equal_any p3 q3 n3 c3 l3 d3 ys3 ys3 w3b (hi3.below hc3) hj3).mono ?_
  rintro e w' ⟨rfl, hw'⟩
  have hw2 := hw'.symm
  subst hw2
  clear hw'
  rw [show (ys3 == ys3) = true from by simp]
  have s4 := minus_any p q m c m' c' xs zs n w3b (h.below m3) (h2.below m3)
  go_wp2_with fail
  refine s4.mono ?_
  rintro e w4a ⟨p4, n4, c4, ys4, rfl, hi4, hm4, hb4⟩
  have k4 := bt m3 hb4
  have t4 := rminus_any p q m c m' c' xs zs n _ (h.below k4) (h2.below k4)
  go_wp2_with fail
  refine t4.mono ?_
  rintro e w4b ⟨q4, l4, d4, zs4, rfl, hj4, hn4, hc4⟩
  have hyz : ys4 = zs4 := hm4.ext hn4 fun _ _ _ => rfl
  subst hyz
  have m4 := bt k4 hc4
  generalize minE xs zs n = er4 at *
  go_wp2_with fail
  refine (equal_any p4 q4 n4 c4 l4 d4 ys4 ys4 w4b (hi4.below hc4) hj4).mono ?_
  rintro e w' ⟨rfl, hw'⟩
  have hw2 := hw'.symm
  subst hw2
  clear hw'
  rw [show (ys4 == ys4) = true from by simp]
  go_wp2_with fail
  refine (equal_any p p0 m c m c0 xs xs w4b (h.below m4) (hin0.below (bt (bt (bt (bt (bt (bt hb1 hc1) hb2) hb3) hc3) hb4) hc4))).mono ?_
  rintro e w' ⟨rfl, hw'⟩
  have hw2 := hw'.symm
  subst hw2
  clear hw'
  rw [show (xs == xs) = true from by simp]
  go_wp2
  go_ret
  exact ⟨ret_bool (by simp), m4⟩
end Go.Proofs.Ythpbeppfiinooaa
