/-
  LayoutSupers returns true.
-/
import Derived.Test.YtbimcdaplnmjdaaLyLive
import Derived.Test.YtbimcdaplnmjdaaLyRDec
namespace Go.Proofs.Ytbimcdaplnmjdaa
open Go.RowKit
set_option linter.unusedSimpArgs false in
set_option maxHeartbeats 4000000 in
set_option maxRecDepth 100000 in
theorem supers_walk (b j o : Int) (cl : Bool) (m : Int) (p : Option Addr) (n c : Nat) (xs : List Nat) (w : World) (hx : In w p n c xs) : Calls Try.prog 5 #[.agg #[.int .i64 b, .int .i64 j, .int .i64 o, .bool cl, .int .i64 m], .slice p n c] w fun e w' => e = .returned (.bool true) ∧ Below w.heap.size w w' := by
  have hb0 := below_alloc w (.cells #[.int .i64 b, .int .i64 j, .int .i64 o, .bool cl, .int .i64 m] 43)
  have b0 := Blk.new' w 43 #[.int .i64 b, .int .i64 j, .int .i64 o, .bool cl, .int .i64 m]
  have hen := fun w => encodeSuper_any b j o cl m w
  have hre := fun w => rencodeSuper_any b j o cl m w
  have hde := fun w hx => decodeSuper_any p n c xs w hx
  have hrd := fun w hx => rdecodeSuper_any p n c xs w hx
  have hv : ∃ (y0 y1 y2 : Int) (y3 : Bool) (y4 : Int), decV xs = #[.int .i64 y0, .int .i64 y1, .int .i64 y2, .bool y3, .int .i64 y4] := by
    unfold decV
    split
    · exact ⟨_, _, _, _, _, rfl⟩
    · exact ⟨_, _, _, _, _, rfl⟩
  obtain ⟨y0, y1, y2, y3, y4, hv⟩ := hv
  rw [hv] at hde hrd
  generalize decE xs = de at *
  generalize supE b j o m = se at *
  generalize supL b j o cl m = sl at *
  clear hv
  go_enter Try.func5, Try.ntmps5
  go_wp2_with (first
      | (go_at_call 9; refine (live_any _).mono ?_; rintro e w1 ⟨rfl, hb1⟩; have k1 := b0.kept hb1; have hB1 := bt hb0 hb1; have c0 := k1.cell' (i := 0) rfl; have c1 := k1.cell' (i := 1) rfl; have c2 := k1.cell' (i := 2) rfl; have c3 := k1.cell' (i := 3) rfl; have c4 := k1.cell' (i := 4) rfl)
      | (go_at_call 32; refine (hen _).mono ?_; rintro e w2 ⟨p2, n2, c2, rfl, hin2, hb2⟩; have k2 := k1.kept hb2; have hB2 := bt hB1 hb2; have d0 := k2.cell' (i := 0) rfl; have d1 := k2.cell' (i := 1) rfl; have d2 := k2.cell' (i := 2) rfl; have d3 := k2.cell' (i := 3) rfl; have d4 := k2.cell' (i := 4) rfl)
      | (go_at_call 33; refine (hre _).mono ?_; rintro e w3 ⟨p3, n3, c3, rfl, hin3, hb3⟩; have hB3 := bt hB2 hb3; have hi3 := hin2.below hb3; have hx3 := hx.below hB3)
      | (go_at_call 34; refine (hde _ hx3).mono ?_; rintro e w4 ⟨rfl, hb4⟩; have z4 := Blk.new' w4 43 #[.int .i64 y0, .int .i64 y1, .int .i64 y2, .bool y3, .int .i64 y4]; have hB4 := bt (bt hB3 hb4) (below_alloc w4 (.cells #[.int .i64 y0, .int .i64 y1, .int .i64 y2, .bool y3, .int .i64 y4] 43)); have hx4 := hx.below hB4; have hi4 := (hi3.below hb4).below (below_alloc w4 (.cells #[.int .i64 y0, .int .i64 y1, .int .i64 y2, .bool y3, .int .i64 y4] 43)); have hj4 := (hin3.below hb4).below (below_alloc w4 (.cells #[.int .i64 y0, .int .i64 y1, .int .i64 y2, .bool y3, .int .i64 y4] 43)))
      | (go_at_call 35; refine (hrd _ hx4).mono ?_; rintro e w5 ⟨rfl, hb5⟩; have z5 := (z4.kept hb5).alloc (.cells #[.int .i64 y0, .int .i64 y1, .int .i64 y2, .bool y3, .int .i64 y4] 43); have hB5 := bt (bt hB4 hb5) (below_alloc w5 (.cells #[.int .i64 y0, .int .i64 y1, .int .i64 y2, .bool y3, .int .i64 y4] 43)); have hi5 := (hi4.below hb5).below (below_alloc w5 (.cells #[.int .i64 y0, .int .i64 y1, .int .i64 y2, .bool y3, .int .i64 y4] 43)); have hj5 := (hj4.below hb5).below (below_alloc w5 (.cells #[.int .i64 y0, .int .i64 y1, .int .i64 y2, .bool y3, .int .i64 y4] 43)); have f0 := z5.cell' (i := 0) rfl; have f1 := z5.cell' (i := 1) rfl; have f2 := z5.cell' (i := 2) rfl; have f3 := z5.cell' (i := 3) rfl; have f4 := z5.cell' (i := 4) rfl)
      | (go_at_call 36; refine (equal_any p2 p3 n2 c2 n3 c3 _ _ _ hi5 hj5).mono ?_; rintro e w' ⟨rfl, hw'⟩; have hw2 := hw'.symm; subst hw2; clear hw'; rw [beq_self_eq_true]))
  go_ret
  exact ⟨rfl, hB5⟩
end Go.Proofs.Ytbimcdaplnmjdaa
