/-
  Table where the sizes are refused.
-/
import Derived.Test.YtfgelncfmopibabSnTabQ
namespace Go.Proofs.Ytfgelncfmopibab
open Go.RowKit
set_option linter.unusedSimpArgs false in
set_option maxRecDepth 100000 in
set_option maxHeartbeats 8000000 in
theorem table_sz (P L K : Int) (p : Option Addr) (n c : Nat) (w : World) (hok : okSz P L K = false) :
    Calls Try.prog 9 #[.int .i64 P, .int .i64 L, .int .i64 K, .slice p n c] w fun e w' => e = .returned (.tuple #[.agg #[.int .i64 0, .int .i64 0, .int .i64 0, .slice none 0 0, .slice none 0 0, .int .i64 0, .int .i64 0, .int .i64 0, .slice none 0 0], .slice none 0 0, .int .i64 1]) ∧ Below w.heap.size w w' := by
  have hnew := fun w => new_no P L K w hok
  have r0 := Blk.new' w 35 #[.int .i64 0, .int .i64 0, .int .i64 0, .slice none 0 0, .slice none 0 0, .int .i64 0, .int .i64 0, .int .i64 0, .slice none 0 0]
  have k0 := below_alloc w (.cells #[.int .i64 0, .int .i64 0, .int .i64 0, .slice none 0 0, .slice none 0 0, .int .i64 0, .int .i64 0, .int .i64 0, .slice none 0 0] 35)
  clear hok
  go_enter Try.func9, Try.ntmps9
  go_upto_region 1 with (fail)
  generalize w.alloc (.cells #[.int .i64 0, .int .i64 0, .int .i64 0, .slice none 0 0, .slice none 0 0, .int .i64 0, .int .i64 0, .int .i64 0, .slice none 0 0] 35) = W0 at *
  go_upto_region 2 with (first | (go_at_call 18; refine (hnew _).mono ?_; rintro e w1 ⟨rfl, hb1⟩) | (refine wpList_store_blk rfl 35 (.tmp 11) (.tmp 25) rfl w1.heap.size 0 [.int .i64 0, .int .i64 0, .int .i64 0, .slice none 0 0, .slice none 0 0, .int .i64 0, .int .i64 0, .int .i64 0, .slice none 0 0] rfl rfl (Blk.new' w1 35 #[.int .i64 0, .int .i64 0, .int .i64 0, .slice none 0 0, .slice none 0 0, .int .i64 0, .int .i64 0, .int .i64 0, .slice none 0 0]) (by exact Nat.le_refl _) (by show _ = some 9; kernel_rfl) (by simp [Value.oneCell']) ?_; intro W4 h4 ht4; rw [whole_row (by rfl)] at h4))
  have k4 : Below w1.heap.size w1 W4 := ht4.below (below_alloc w1 _) (Nat.le_refl _)
  have r4 := (r0.kept hb1).kept k4
  have kw4 := bt (bt k0 hb1) k4
  clear hnew r0 k0 hb1 k4 h4 ht4
  go_wp2_with (guard_target = wpList _ _ _ (Oper.mk _ (Op.store 35 (Operand.tmp 8) _) _ _ _ _ :: _) _ _; refine wpList_store_blk rfl 35 (.tmp 8) (.tmp 29) rfl w.heap.size 0 [.int .i64 0, .int .i64 0, .int .i64 0, .slice none 0 0, .slice none 0 0, .int .i64 0, .int .i64 0, .int .i64 0, .slice none 0 0] rfl rfl r4 (by exact Nat.le_refl _) (by show _ = some 9; kernel_rfl) (by simp [Value.oneCell']) ?_; intro W9 h9 ht9; rw [whole_row (by rfl)] at h9)
  exact ret_tab3 (V := ⟨none, 0, 0, none, 0, 0, none, 0, 0⟩) (T := ⟨0, 0, 0, [], [], 0, 0, 0, []⟩) Try.results9 rfl h9 rfl rfl rfl ⟨rfl, ht9.below kw4 (Nat.le_refl _)⟩
end Go.Proofs.Ytfgelncfmopibab
