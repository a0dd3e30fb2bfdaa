/-
  live, walked.
-/
import Derived.Test.YtmagcohdhljaeaaPgLive
import Derived.Lib.SlBytesConst
namespace Go.Proofs.Ytmagcohdhljaeaa
open Go.RowKit
/-- A literal of bytes in a new block, of which a place may be marked. -/
theorem in_lit_fr (w : World) (cs : Array Value) (xs : List Nat) (n : Nat) (fr : Nat × Nat) (h : cs.toList = vals xs) (hn : xs.length = n) (hb : ∀ x ∈ xs, x < 256) (hr : n ≤ 140737488355328) :
    In (w.alloc (.cells cs 5 fr)) (some ⟨w.heap.size, 0, none⟩) n n xs := by
  refine ⟨hn, Nat.le_refl _, by unfold maxLen; omega, hr, hb, fun _ => ⟨w.heap.size, 0, rfl, by simp, fun i hi => ?_⟩, fun e => by simp at e⟩
  rw [cell_of_row _ _ _ _ 5 _ (heap_alloc_new w _), ← Array.getElem?_toList, h, Nat.zero_add, vals_get xs i (by omega)]
set_option maxRecDepth 100000 in
set_option maxHeartbeats 4000000 in
theorem plive_any (w : World) : Calls Try.prog 9 #[] w fun e w' => e = .returned (.bool true) ∧ Below w.heap.size w w' := by
  have hz := zeroPage
  have hin0 := in_lit_fr w #[Value.int .u8 97] [97] 1 (1, 2) rfl rfl (by decide) (by decide)
  have hcv : (convert 24 24 (.slice (some ⟨w.heap.size, 0, none⟩) 1 1)).run Try.prog (w.alloc (.cells #[.int .u8 97] 5)) = .ok (.slice (some ⟨w.heap.size, 0, none⟩) 1 1) (w.alloc (.cells #[.int .u8 97] 5 (1, 2))) := Lib.run_convert_bytes_const (P := Try.prog) w 24 5 #[.int .u8 97] 1 1 Try.underlying24 Try.underlying5
  obtain ⟨f1, f2, f3, f4, f5, f6⟩ := live_facts
  have F1 : Hid (encE 2 5 9 9 [97] = 0) := f1
  have F3 : Hid ((liveP.drop 256).take 14 = [2, 0, 0, 0, 0, 5, 0, 0, 0, 0, 0, 0, 0, 9]) := f3
  have F4 : Hid (liveP[0]? = some 97) := f4
  have F5 : Hid (decE liveP = 0) := f5
  have F6 : Hid (decE (fillP 255) = 10) := f6
  have hP := liveP_isP
  have HE : Hid (encP 2 5 9 9 [97] = liveP) := rfl
  clear f1 f2 f3 f4 f5 f6
  generalize liveP = P at *
  go_enter Try.func9, Try.ntmps9
  go_wp2_with (first
    | (go_at_call 10; refine (encode_any 2 5 9 9 _ 1 1 [97] _ hin0).mono ?_; rintro e w1 ⟨rfl, hb1⟩; rw [HE.out, F1.out]; have hB1 := bt (below_alloc w _) hb1)
    | (refine wpList_store_blk rfl 29 (.tmp 1) (.tmp 8) rfl _ _ (vals P) rfl rfl (Blk.new w1 29 (vals (fillP 0))) (page_fits hP.1 (fillP_length 0)) (sizeP hP.1) (vals_one _) ?_; intro w2 h2 ht2; rw [page_whole hP.1 (fillP_length 0)] at h2; have hB2 : Below w1.heap.size w1 w2 := ht2.below (below_alloc w1 _) (Nat.le_refl _)))
  have hB2' := bt hB1 hB2
  have hl2 := in_lit w2 (cs := #[Value.int IntKind.u8 2, Value.int IntKind.u8 0, Value.int IntKind.u8 0, Value.int IntKind.u8 0, Value.int IntKind.u8 0, Value.int IntKind.u8 5, Value.int IntKind.u8 0, Value.int IntKind.u8 0, Value.int IntKind.u8 0, Value.int IntKind.u8 0, Value.int IntKind.u8 0, Value.int IntKind.u8 0, Value.int IntKind.u8 0, Value.int IntKind.u8 9]) (xs := [2, 0, 0, 0, 0, 5, 0, 0, 0, 0, 0, 0, 0, 9]) (n := 14) rfl rfl (by decide) (by decide)
  have hin1 := (in_blk h2 256 14 (by rw [hP.1]; decide) (by rw [hP.1]; decide) hP.2 32 (by decide) (by decide)).below (below_alloc w2 (.cells #[Value.int IntKind.u8 2, Value.int IntKind.u8 0, Value.int IntKind.u8 0, Value.int IntKind.u8 0, Value.int IntKind.u8 0, Value.int IntKind.u8 5, Value.int IntKind.u8 0, Value.int IntKind.u8 0, Value.int IntKind.u8 0, Value.int IntKind.u8 0, Value.int IntKind.u8 0, Value.int IntKind.u8 0, Value.int IntKind.u8 0, Value.int IntKind.u8 9] 5))
  rw [F3.out] at hin1
  refine (equal_any _ _ 14 32 14 14 [2, 0, 0, 0, 0, 5, 0, 0, 0, 0, 0, 0, 0, 9] [2, 0, 0, 0, 0, 5, 0, 0, 0, 0, 0, 0, 0, 9] _ hin1 hl2).mono ?_
  rintro e w3 ⟨rfl, hw3⟩
  have h3 := h2.alloc (.cells #[Value.int IntKind.u8 2, Value.int IntKind.u8 0, Value.int IntKind.u8 0, Value.int IntKind.u8 0, Value.int IntKind.u8 0, Value.int IntKind.u8 5, Value.int IntKind.u8 0, Value.int IntKind.u8 0, Value.int IntKind.u8 0, Value.int IntKind.u8 0, Value.int IntKind.u8 0, Value.int IntKind.u8 0, Value.int IntKind.u8 0, Value.int IntKind.u8 9] 5)
  have hB3 := bt hB2' (below_alloc w2 (.cells #[Value.int IntKind.u8 2, Value.int IntKind.u8 0, Value.int IntKind.u8 0, Value.int IntKind.u8 0, Value.int IntKind.u8 0, Value.int IntKind.u8 5, Value.int IntKind.u8 0, Value.int IntKind.u8 0, Value.int IntKind.u8 0, Value.int IntKind.u8 0, Value.int IntKind.u8 0, Value.int IntKind.u8 0, Value.int IntKind.u8 0, Value.int IntKind.u8 9] 5))
  rw [show (([2, 0, 0, 0, 0, 5, 0, 0, 0, 0, 0, 0, 0, 9] : List Nat) == [2, 0, 0, 0, 0, 5, 0, 0, 0, 0, 0, 0, 0, 9]) = true from rfl]
  rw [← hw3] at h3 hB3
  clear hw3 hl2 hin1 hcv hin0 hB1 hB2 hB2' ht2 h2
  have c0 : w3.cell? ⟨w1.heap.size, 0, none⟩ = some (.int .u8 97) := h3.cell' (i := 0) (by simp [vals, F4.out])
  go_wp2_with (refine wpList_load_guard (by rfl) 29 (.tmp 1) rfl w1.heap.size 0 rfl (vals P) _ (h3.page hP.1) Try.underlying29 rfl (sizeP hP.1) ?_)
  refine (pstate_any P hP _).mono ?_
  rintro e w4 ⟨rfl, hb4⟩
  rw [F5.out]
  have hB4 := bt hB3 hb4
  clear c0 h3 hB3 hb4
  go_wp2_with fail
  refine (erasedP_any _).mono ?_
  rintro e w5 ⟨rfl, hb5⟩
  have hB5 := bt hB4 hb5
  clear hB4 hb5
  go_wp2_with fail
  refine (pstate_any (fillP 255) (isP_fill 255 (by decide)) _).mono ?_
  rintro e w6 ⟨rfl, hb6⟩
  rw [F6.out]
  have hB6 := bt hB5 hb6
  go_wp2
  go_ret
  exact ⟨rfl, hB6⟩
end Go.Proofs.Ytmagcohdhljaeaa
