/-
  LayoutDescs returns true.
-/
import Derived.Test.YtbimcdaplnmjdaaLyLive
import Derived.Test.YtbimcdaplnmjdaaLyEqD
import Derived.Test.YtbimcdaplnmjdaaLyRDDec
namespace Go.Proofs.Ytbimcdaplnmjdaa
open Go.RowKit
set_option linter.unusedSimpArgs false in
set_option maxHeartbeats 4000000 in
set_option maxRecDepth 100000 in
theorem descs_walk (a : Option Addr) (nl cl : Nat) (l : List Dsc) (p : Option Addr) (n c : Nat) (xs : List Nat) (k : Int) (w : World) (hl : InD w a nl cl l) (hr : ∀ d ∈ l, d.rng) (hx : In w p n c xs) : Calls Try.prog 6 #[.slice a nl cl, .slice p n c, .int .i64 k] w fun e w' => e = .returned (.bool true) ∧ Below w.heap.size w w' := by
  have h1 := fun w (h : InD w a nl cl l) => encodeDescs_any a nl cl l w h hr
  have h2 := fun w (h : InD w a nl cl l) => rencodeDescs_any a nl cl l w h
  have h3 := fun w (h : In w p n c xs) => decodeDescs_any p n c xs k w h
  have h4 := fun w (h : In w p n c xs) => rdecodeDescs_any p n c xs k w h
  have HI := fun W (h : Below w.heap.size w W) => hl.below h
  have HX := fun W (h : Below w.heap.size w W) => hx.below h
  generalize edE l = E1 at *
  generalize edL l = L1 at *
  generalize ddE xs k = E2 at *
  generalize ddL xs k = L2 at *
  go_enter Try.func6, Try.ntmps6
  go_wp2_with fail
  refine (live_any _).mono ?_
  rintro e w1 ⟨rfl, hb1⟩
  go_wp2_with fail
  refine (h1 _ (HI _ hb1)).mono ?_
  rintro e w2 ⟨p2, n2, c2, rfl, hin2, hb2⟩
  have B2 := bt hb1 hb2
  go_wp2_with fail
  refine (h2 _ (HI _ B2)).mono ?_
  rintro e w3 ⟨p3, n3, c3, rfl, hin3, hb3⟩
  have B3 := bt B2 hb3
  have i2 := hin2.below hb3
  go_wp2_with fail
  refine (h3 _ (HX _ B3)).mono ?_
  rintro e w4 ⟨p4, n4, c4, rfl, hin4, hb4⟩
  have B4 := bt B3 hb4
  have i3 := hin3.below hb4
  replace i2 := i2.below hb4
  go_wp2_with fail
  refine (h4 _ (HX _ B4)).mono ?_
  rintro e w5 ⟨p5, n5, c5, rfl, hin5, hb5⟩
  have B5 := bt B4 hb5
  replace i3 := i3.below hb5
  replace i2 := i2.below hb5
  have i4 := hin4.below hb5
  have hn : n5 = n4 := by rw [← hin5.len, ← hin4.len]
  subst hn
  go_wp2_with fail
  refine (equal_any p2 p3 n2 c2 n3 c3 L1 L1 _ i2 i3).mono ?_
  rintro e w' ⟨rfl, hw'⟩
  have hw2 := hw'.symm
  subst hw2
  clear hw'
  rw [beq_self_eq_true]
  go_wp2_with fail
  refine (equalD_yes p4 p5 _ c4 c5 L2 _ i4 hin5).mono ?_
  rintro e w6 ⟨rfl, hb6⟩
  go_wp2
  go_ret
  exact ⟨rfl, bt B5 hb6⟩
end Go.Proofs.Ytbimcdaplnmjdaa
