/-
  MapOrder, the walk: what is no geometry.
-/
import Derived.Test.YtpikaagdiafieabMjOrder1
namespace Go.Proofs.Ytpikaagdiafieab
open Go.RowKit
set_option linter.unusedSimpArgs false in
set_option maxRecDepth 100000 in
set_option maxHeartbeats 4000000 in
theorem order_bad (i x : Int) (pl : Option Addr) (N c' : Nat) (f : Nat → PV) (l : List MP) (w : World) (hl : InPs w pl N c' f l) (hi : ¬ (16 ≤ i ∧ i ≤ 256)) :
    Calls Try.prog 3 #[.int .i64 i, .slice pl N c', .int .u8 x] w fun e w' => e = .returned (.bool true) ∧ Below w.heap.size w w' := by
  have j := fun W h => replay_any i pl N c' f l W h
  rw [replayR_no hi] at j
  clear hi
  go_enter Try.func3, Try.ntmps3
  go_upto_region 2 with (go_at_call 5; refine (j _ hl).mono ?_; rintro e u1 ⟨V1, rfl, ho, hbx⟩; dsimp only)
  have hB := bt hbx (below_alloc u1 (.cells #[.slice V1.p V1.n V1.c, .slice V1.q V1.m V1.d, .int .i64 MS.zero.seq] 26))
  clear hbx j
  go_wp2_with (go_at_call 6; refine (begun_any _).mono ?_; rintro e w1 ⟨rfl, hb1⟩; replace hB := bt hB hb1; clear hb1)
  go_ret
  exact ⟨rfl, hB⟩
end Go.Proofs.Ytpikaagdiafieab
