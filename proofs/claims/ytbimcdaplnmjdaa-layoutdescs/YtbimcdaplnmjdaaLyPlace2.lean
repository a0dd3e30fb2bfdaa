/-
  Where layout.place lays the things of a group behind the first one.
-/
import Derived.Test.YtbimcdaplnmjdaaLyPlace
namespace Go.Proofs.Ytbimcdaplnmjdaa
open Go.RowKit
set_option linter.unusedSimpArgs false in
set_option maxHeartbeats 4000000 in
set_option maxRecDepth 100000 in
theorem place_pos (b j g : Int) (w : World) (h1 : 1 ≤ b) (h2 : b ≤ 8192) (h3 : 1 ≤ g) (h4 : g ≤ 64) :
    Calls Try.prog 46 #[.agg #[.int .i64 b, .int .i64 j], .int .i64 g] w fun e w' => e = .returned (.agg (grpA b j g)) ∧ Below w.heap.size w w' := by
  have hb0 := below_alloc w (.cells #[.int .i64 b, .int .i64 j] 24)
  have b0 := (Blk.new' w 24 #[.int .i64 b, .int .i64 j]).alloc (.cells #[.int .i64 0, .int .i64 0, .int .i64 0, .int .i64 0, .int .i64 0, .int .i64 0] 30)
  have b3 : Blk ((w.alloc (.cells #[.int .i64 b, .int .i64 j] 24)).alloc (.cells #[.int .i64 0, .int .i64 0, .int .i64 0, .int .i64 0, .int .i64 0, .int .i64 0] 30)) (w.heap.size + 1) 30 [.int .i64 0, .int .i64 0, .int .i64 0, .int .i64 0, .int .i64 0, .int .i64 0] := by
    have := Blk.new' (w.alloc (.cells #[.int .i64 b, .int .i64 j] 24)) 30 #[.int .i64 0, .int .i64 0, .int .i64 0, .int .i64 0, .int .i64 0, .int .i64 0]
    rw [World.size_alloc] at this; exact this
  have hB1 := bt hb0 (below_alloc _ (.cells #[.int .i64 0, .int .i64 0, .int .i64 0, .int .i64 0, .int .i64 0, .int .i64 0] 30))
  have hg0 : (g == 0) = false := by rw [beq_eq_false_iff_ne]; omega
  have HR : Hid (grpA b j g = #[.int .i64 (g * 128), .int .i64 (min 128 (b - g * 128)), .int .i64 (g * 128), .int .i64 (g * 128 + 1), .int .i64 (g * 128 + 1 + 1), .int .i64 (g * 128 + 1 + 1 + 4)]) := by
    show _ = _
    unfold grpA gMap gData gLen
    have e : ¬ g = 0 := by omega
    rw [if_neg e, if_neg e]
    simp
    omega
  go_enter Try.func46, Try.ntmps46
  go_upto_region 5 with fail
  generalize (w.alloc (.cells #[.int .i64 b, .int .i64 j] 24)).alloc (.cells #[.int .i64 0, .int .i64 0, .int .i64 0, .int .i64 0, .int .i64 0, .int .i64 0] 30) = w1 at *
  have c0 := b0.cell' (i := 0) rfl
  have hl3 := b3.lt
  clear b0 hb0
  go_upto_region 9 with (first
    | (go_at_call 51; refine (tableEnd_any _ _ _ _ _ _ _ (by omega) (by omega)).mono ?_; rintro e w2 ⟨rfl, hb2⟩; have b4 := (Blk.new' w1 30 #[.int .i64 (g * 128), .int .i64 (min 128 (b - g * 128)), .int .i64 (g * 128), .int .i64 (g * 128 + 1), .int .i64 (g * 128 + 1 + 1), .int .i64 0]).kept hb2; have b5 := (b3.alloc _).kept hb2; have hB2 := bt (bt hB1 (below_alloc w1 _)) hb2)
    | (refine wpList_store_cell rfl 3 (.tmp 40) (.tmp 39) rfl _ 5 (.int .i64 (g * 128 + 1 + 1 + 4)) rfl rfl b4 (by simp) size_int rfl ?_; intro w3 b6 t6))
  replace b6 : Blk w3 w1.heap.size 30 [.int .i64 (g * 128), .int .i64 (min 128 (b - g * 128)), .int .i64 (g * 128), .int .i64 (g * 128 + 1), .int .i64 (g * 128 + 1 + 1), .int .i64 (g * 128 + 1 + 1 + 4)] := b6
  have b7 := b5.turned t6 (by omega)
  have hB3 := t6.below hB2 (by have := hB1.size; omega)
  have e0 := b6.cell' (i := 0) rfl
  have e1 := b6.cell' (i := 1) rfl
  have e2 := b6.cell' (i := 2) rfl
  have e3 := b6.cell' (i := 3) rfl
  have e4 := b6.cell' (i := 4) rfl
  have e5 := b6.cell' (i := 5) rfl
  clear b3 b4 b5 hb2 hB1 hB2 t6 c0
  go_wp2_with (refine wpList_store_blk rfl 30 (.tmp 4) (.tmp 41) rfl _ 0 [.int .i64 (g * 128), .int .i64 (min 128 (b - g * 128)), .int .i64 (g * 128), .int .i64 (g * 128 + 1), .int .i64 (g * 128 + 1 + 1), .int .i64 (g * 128 + 1 + 1 + 4)] rfl rfl b7 (by simp) size_group one6 ?_; intro w4 b8 t8)
  refine ret_group rfl rfl b8 rfl ⟨?_, t8.below hB3 (by omega)⟩
  rw [HR.out]
theorem place_any (b j g : Int) (w : World) (h1 : 1 ≤ b) (h2 : b ≤ 8192) (h3 : 16 ≤ j) (h4 : j ≤ 64) (h5 : 0 ≤ g) (h6 : g ≤ 64) :
    Calls Try.prog 46 #[.agg #[.int .i64 b, .int .i64 j], .int .i64 g] w fun e w' => e = .returned (.agg (grpA b j g)) ∧ Below w.heap.size w w' := by
  by_cases h : g = 0
  · subst h; exact place_zero b j w h1 h2 h3 h4
  · exact place_pos b j g w h1 h2 (by omega) h6
end Go.Proofs.Ytbimcdaplnmjdaa
