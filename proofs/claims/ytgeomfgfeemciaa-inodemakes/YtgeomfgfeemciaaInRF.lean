/-
  What the reference's Free answers.
-/
import Derived.Test.YtgeomfgfeemciaaInRB
namespace Go.Proofs.Ytgeomfgfeemciaa
open Go.RowKit
theorem free_may (ge : Int) : inoB ⟨0, 0, 0, 0, ge, 0, []⟩ = inB ge 0 4294967295 := by
  unfold inoB numB rootB kindB zeroB
  dsimp only
  rw [if_pos rfl, if_pos rfl, chkB_nil]
  simp [inB]
set_option linter.unusedSimpArgs false in
set_option linter.unusedVariables false in
set_option maxRecDepth 100000 in
set_option maxHeartbeats 4000000 in
theorem rfree_any (ge : Int) (w : World) : Calls Try.prog 18 #[.int .i64 ge] w fun e w' => e = .returned (.agg #[.int .i64 0, .int .i64 0, .int .i64 0, .int .i64 0, .int .i64 (if inB ge 0 4294967295 = true then ge else 0), .int .i64 0, .slice none 0 0]) ∧ Below w.heap.size w w' := by
  have hb0 := below_alloc w (.cells #[.int .i64 0, .int .i64 0, .int .i64 0, .int .i64 0, .int .i64 0, .int .i64 0, .slice none 0 0] 24)
  have r0 := Blk.new' w 24 #[.int .i64 0, .int .i64 0, .int .i64 0, .int .i64 0, .int .i64 0, .int .i64 0, .slice none 0 0]
  have k1 := below_alloc (w.alloc (.cells #[.int .i64 0, .int .i64 0, .int .i64 0, .int .i64 0, .int .i64 0, .int .i64 0, .slice none 0 0] 24)) (.cells #[.int .i64 0, .int .i64 0, .int .i64 0, .int .i64 0, .int .i64 ge, .int .i64 0, .slice none 0 0] 24)
  have r1 := Blk.new' (w.alloc (.cells #[.int .i64 0, .int .i64 0, .int .i64 0, .int .i64 0, .int .i64 0, .int .i64 0, .slice none 0 0] 24)) 24 #[.int .i64 0, .int .i64 0, .int .i64 0, .int .i64 0, .int .i64 ge, .int .i64 0, .slice none 0 0]
  rw [show (w.alloc (.cells #[.int .i64 0, .int .i64 0, .int .i64 0, .int .i64 0, .int .i64 0, .int .i64 0, .slice none 0 0] 24)).heap.size = w.heap.size + 1 from World.size_alloc _ _] at r1
  obtain ⟨d0, d1, d2, d3, d4, d5, d6⟩ := r1.ino7
  have hm := free_may ge
  cases h : inB ge 0 4294967295 with
  | true =>
    rw [if_pos rfl]
    have HE : Hid (inoE ⟨0, 0, 0, 0, ge, 0, []⟩ = 0) := inoE_ok (hm.trans h)
    clear hm h
    go_enter Try.func18, Try.ntmps18
    go_wp2_with (first
      | (go_at_call 15; refine (rcheck14_any ⟨0, 0, 0, 0, ge, 0, []⟩ none 0 0 _ (InE.empty _)).mono ?_; rintro e w1 ⟨rfl, hb1⟩; rw [HE.out]; have r2 := (r0.kept k1).kept hb1; have hB1 := bt (bt hb0 k1) hb1; clear d0 d1 d2 d3 d4 d5 d6; obtain ⟨d0, d1, d2, d3, d4, d5, d6⟩ := (r1.kept hb1).ino7)
      | (guard_target = wpList _ _ _ (Oper.mk _ (Op.store 24 (Operand.tmp 2) _) _ _ _ _ :: _) _ _; refine wpList_store_blk rfl 24 (.tmp 2) (.tmp 10) rfl _ 0 [.int .i64 0, .int .i64 0, .int .i64 0, .int .i64 0, .int .i64 ge, .int .i64 0, .slice none 0 0] rfl rfl r2 (by simp) size_ino one7 ?_; intro w8 b8 t8))
    exact ret_ino rfl rfl b8 rfl ⟨rfl, t8.below hB1 (Nat.le_refl _)⟩
  | false =>
    rw [if_neg (by decide)]
    have HE : Hid (inoE ⟨0, 0, 0, 0, ge, 0, []⟩ = 140) := inoE_no (hm.trans h)
    clear hm h
    go_enter Try.func18, Try.ntmps18
    go_wp2_with (first
      | (go_at_call 15; refine (rcheck14_any ⟨0, 0, 0, 0, ge, 0, []⟩ none 0 0 _ (InE.empty _)).mono ?_; rintro e w1 ⟨rfl, hb1⟩; rw [HE.out]; have r2 := (r0.kept k1).kept hb1; have hB1 := bt (bt hb0 k1) hb1; clear d0 d1 d2 d3 d4 d5 d6; obtain ⟨d0, d1, d2, d3, d4, d5, d6⟩ := (r1.kept hb1).ino7)
      | (guard_target = wpList _ _ _ (Oper.mk _ (Op.store 24 (Operand.tmp 2) _) _ _ _ _ :: _) _ _; refine wpList_store_blk rfl 24 (.tmp 2) (.tmp 9) rfl _ 0 [.int .i64 0, .int .i64 0, .int .i64 0, .int .i64 0, .int .i64 0, .int .i64 0, .slice none 0 0] rfl rfl r2 (by simp) size_ino one7 ?_; intro w8 b8 t8))
    exact ret_ino rfl rfl b8 rfl ⟨rfl, t8.below hB1 (Nat.le_refl _)⟩
end Go.Proofs.Ytgeomfgfeemciaa
