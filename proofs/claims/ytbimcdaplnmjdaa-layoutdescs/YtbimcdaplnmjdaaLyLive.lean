/-
  What the statements' own function live answers: true.
-/
import Derived.Test.YtbimcdaplnmjdaaLyPlan
namespace Go.Proofs.Ytbimcdaplnmjdaa
open Go.RowKit
theorem lit_plan : planB 300 16 = 300 ∧ planJ 300 16 = 16 ∧ planE 300 16 = 0 := by decide +kernel
theorem lit_group : grpE 300 16 0 = 0 ∧ grpsN 300 16 = 3 := by decide +kernel
theorem lit_grpV : grpV 300 16 0 = #[.int .i64 0, .int .i64 128, .int .i64 2, .int .i64 3, .int .i64 4, .int .i64 24] := by
  unfold grpV
  rw [lit_group.1, if_pos rfl]
  unfold grpA
  rw [show (128 * 0 : Int) = 0 from rfl, show gLen 300 0 = 128 from by decide +kernel, show gMap 300 0 = 2 from by decide +kernel, show gData 300 16 0 = 24 from by decide +kernel]
  rfl
set_option linter.unusedSimpArgs false in
set_option maxHeartbeats 4000000 in
set_option maxRecDepth 100000 in
theorem live_any (w : World) : Calls Try.prog 9 #[] w fun e w' => e = .returned (.bool true) ∧ Below w.heap.size w w' := by
  have hp := fun w => plan_any 300 16 w
  rw [lit_plan.1, lit_plan.2.1, lit_plan.2.2] at hp
  have hg := fun w => group_any 300 16 0 w
  rw [lit_grpV, lit_group.1] at hg
  have hn := fun w => grps_any 300 16 w
  rw [lit_group.2] at hn
  go_enter Try.func9, Try.ntmps9
  go_wp2_with (first
      | (go_at_call 10; refine (hp _).mono ?_; rintro e w1 ⟨rfl, hb1⟩; have hl1 := hb1.size)
      | (go_at_call 12; refine (hg _).mono ?_; rintro e w2 ⟨rfl, hb2⟩; have b2 := (Blk.new' w1 24 #[.int .i64 300, .int .i64 16]).kept hb2; have c0 := b2.cell' (i := 0) rfl; have c1 := b2.cell' (i := 1) rfl; have hl2 := b2.lt)
      | (go_at_call 16; refine (hn _).mono ?_; rintro e w3 ⟨rfl, hb3⟩; have b3 := (Blk.new' w2 30 #[.int .i64 0, .int .i64 128, .int .i64 2, .int .i64 3, .int .i64 4, .int .i64 24]).kept hb3; have d0 := b3.cell' (i := 0) rfl; have d1 := b3.cell' (i := 1) rfl; have d2 := b3.cell' (i := 2) rfl; have d3 := b3.cell' (i := 3) rfl; have d4 := b3.cell' (i := 4) rfl; have d5 := b3.cell' (i := 5) rfl))
  go_ret
  exact ⟨rfl, bt (bt (bt (bt hb1 (below_alloc w1 _)) hb2) (below_alloc w2 _)) hb3⟩
end Go.Proofs.Ytbimcdaplnmjdaa
