/-
  Where layout.place lays a group's things.
-/
import Derived.Test.YtbimcdaplnmjdaaLyA
import Derived.Test.YtbimcdaplnmjdaaLyC
import Derived.Deep.CutRange
import Derived.Lib.MinMax
namespace Go.Proofs.Ytbimcdaplnmjdaa
open Go.RowKit
set_option linter.unusedSimpArgs false in
set_option maxHeartbeats 4000000 in
set_option maxRecDepth 100000 in
theorem place_zero (b j : Int) (w : World) (h1 : 1 ≤ b) (h2 : b ≤ 8192) (h3 : 16 ≤ j) (h4 : j ≤ 64) :
    Calls Try.prog 46 #[.agg #[.int .i64 b, .int .i64 j], .int .i64 0] w fun e w' => e = .returned (.agg (grpA b j 0)) ∧ Below w.heap.size w w' := by
  have hb0 := below_alloc w (.cells #[.int .i64 b, .int .i64 j] 24)
  have b0 := Blk.new' w 24 #[.int .i64 b, .int .i64 j]
  obtain ⟨d, HD⟩ : ∃ d, Hid (dN b = d) := ⟨_, rfl⟩
  have hd1 : 1 ≤ d := by rw [← HD.out]; exact (dN_rng h1 h2).1
  have hd2 : d ≤ 4 := by rw [← HD.out]; exact (dN_rng h1 h2).2
  have hc := fun w => descs_any b j w h1 h2
  rw [HD.out] at hc
  have hw1 : IntKind.i64.wrap (1 + d) = 1 + d := wrapB _ (by omega) (by omega)
  go_enter Try.func46, Try.ntmps46
  go_upto_region 4 with fail
  have b1 := b0.alloc (.cells #[.int .i64 0, .int .i64 0, .int .i64 0, .int .i64 0, .int .i64 0, .int .i64 0] 30)
  refine wp_region_noPanic ?_
  refine wp_region_held_drew (S := fun W => Blk W w.heap.size 24 [.int .i64 b, .int .i64 j]) (by kernel_rfl) b1.drew (fun hHeld => ?_)
  refine wpAnyH_take (i := 0) (v := ?_) rfl (by kernel_rfl) (by kernel_rfl) (by kernel_rfl) (fun _ _ _ h => h) (Or.inl ⟨by rfl, ?_⟩) hHeld ?_
  rotate_left
  · intro w' hSw; try dsimp only at hSw
    have c0 := hSw.cell' (i := 0) rfl
    have c1 := hSw.cell' (i := 1) rfl
    go_simp; try (with_reducible rfl)
  try simp only [Act.put, List.getElem_toArray, List.getElem_cons_succ, List.getElem_cons_zero, List.setIfInBounds_toArray, List.set_cons_zero, List.set_cons_succ]
  refine wpAnyH_take (i := 3) (v := ?_) rfl (by kernel_rfl) (by kernel_rfl) (by kernel_rfl) (fun _ _ _ h => h) (Or.inl ⟨by rfl, ?_⟩) hHeld ?_
  rotate_left
  · intro w' hSw; try dsimp only at hSw
    go_simp; try (with_reducible rfl)
  try simp only [Act.put, List.getElem_toArray, List.getElem_cons_succ, List.getElem_cons_zero, List.setIfInBounds_toArray, List.set_cons_zero, List.set_cons_succ]
  refine wpAnyH_take (i := 4) (v := ?_) rfl (by kernel_rfl) (by kernel_rfl) (by kernel_rfl) (fun _ _ _ h => h) (Or.inl ⟨by rfl, ?_⟩) hHeld ?_
  rotate_left
  · intro w' hSw; try dsimp only at hSw
    have c0 := hSw.cell' (i := 0) rfl
    have c1 := hSw.cell' (i := 1) rfl
    go_simp; try (with_reducible rfl)
  try simp only [Act.put, List.getElem_toArray, List.getElem_cons_succ, List.getElem_cons_zero, List.setIfInBounds_toArray, List.set_cons_zero, List.set_cons_succ]
  refine wpAnyH_ready (rs := [1]) (by kernel_rfl) (by simp) ?_
  refine AllReadyH.cons rfl (fun K hK => ?_) AllReadyH.nil
  go_simp
  refine (hc _).mono ?_
  rintro e w1 ⟨rfl, hb1⟩
  have b2 := b1.kept (((Below.refl _ _).drew).trans hb1)
  refine hK.out _ _ b2 (fun hHeld => ?_)
  clear hK K
  try simp only [Act.put, List.getElem_toArray, List.getElem_cons_succ, List.getElem_cons_zero, List.setIfInBounds_toArray, List.set_cons_zero, List.set_cons_succ]
  refine wpAnyH_take (i := 2) (v := ?_) rfl (by kernel_rfl) (by kernel_rfl) (by kernel_rfl) (fun _ _ _ h => h) (Or.inl ⟨by rfl, ?_⟩) hHeld ?_
  rotate_left
  · intro w' hSw; try dsimp only at hSw
    go_simp; try (with_reducible rfl)
  try simp only [Act.put, List.getElem_toArray, List.getElem_cons_succ, List.getElem_cons_zero, List.setIfInBounds_toArray, List.set_cons_zero, List.set_cons_succ]
  refine wpAnyH_take (i := 5) (v := ?_) rfl (by kernel_rfl) (by kernel_rfl) (by kernel_rfl) (fun _ _ _ h => h) (Or.inl ⟨by rfl, ?_⟩) hHeld ?_
  rotate_left
  · intro w' hSw; try dsimp only at hSw
    go_simp; try (with_reducible rfl)
  try simp only [Act.put, List.getElem_toArray, List.getElem_cons_succ, List.getElem_cons_zero, List.setIfInBounds_toArray, List.set_cons_zero, List.set_cons_succ]
  refine wpAnyH_take (i := 6) (v := ?_) rfl (by kernel_rfl) (by kernel_rfl) (by kernel_rfl) (fun _ _ _ h => h) (Or.inl ⟨by rfl, ?_⟩) hHeld ?_
  rotate_left
  · intro w' hSw; try dsimp only at hSw
    go_simp; try (with_reducible rfl)
  try simp only [Act.put, List.getElem_toArray, List.getElem_cons_succ, List.getElem_cons_zero, List.setIfInBounds_toArray, List.set_cons_zero, List.set_cons_succ]
  refine wpAnyH_done (by kernel_rfl) ?_ _
  refine NoPanic.normal ?_
  try rw [hw1]
  clear hHeld hw1
  have c0 := b2.cell' (i := 0) rfl
  have b3 : Blk w1 (w.heap.size + 1) 30 [.int .i64 0, .int .i64 0, .int .i64 0, .int .i64 0, .int .i64 0, .int .i64 0] := by
    have := (Blk.new (w.alloc (.cells #[.int .i64 b, .int .i64 j] 24)) 30 [.int .i64 0, .int .i64 0, .int .i64 0, .int .i64 0, .int .i64 0, .int .i64 0]).kept (((Below.refl _ _).drew).trans hb1)
    rw [World.size_alloc] at this; exact this
  have hB1 : Below w.heap.size w w1 := bt (bt hb0 (below_alloc _ _)) (((Below.refl _ _).drew).trans hb1)
  have hl3 := b3.lt
  clear b0 b1 b2 hb1 hb0 hc
  have HM : Hid (gLen b 0 = min 128 b) := by show _ = _; unfold gLen; simp
  go_upto_region 9 with (first
    | (go_at_call 51; refine (tableEnd_any _ _ _ _ _ _ _ (by omega) (by omega)).mono ?_; rintro e w2 ⟨rfl, hb2⟩; have b4 := (Blk.new' w1 30 #[.int .i64 0, .int .i64 (min 128 b), .int .i64 (1 + d), .int .i64 (1 + d + 1), .int .i64 (1 + d + 1 + 1), .int .i64 0]).kept hb2; have b5 := (b3.alloc _).kept hb2; have hB2 := bt (bt hB1 (below_alloc w1 _)) hb2)
    | (refine wpList_store_cell rfl 3 (.tmp 40) (.tmp 39) rfl _ 5 (.int .i64 (1 + d + 1 + 1 + 4 + j)) rfl rfl b4 (by simp) size_int rfl ?_; intro w3 b6 t6))
  replace b6 : Blk w3 w1.heap.size 30 [.int .i64 0, .int .i64 (min 128 b), .int .i64 (1 + d), .int .i64 (1 + d + 1), .int .i64 (1 + d + 1 + 1), .int .i64 (1 + d + 1 + 1 + 4 + j)] := b6
  have b7 := b5.turned t6 (by omega)
  have hB3 := t6.below hB2 (by have := hB1.size; omega)
  have e0 := b6.cell' (i := 0) rfl
  have e1 := b6.cell' (i := 1) rfl
  have e2 := b6.cell' (i := 2) rfl
  have e3 := b6.cell' (i := 3) rfl
  have e4 := b6.cell' (i := 4) rfl
  have e5 := b6.cell' (i := 5) rfl
  clear b3 b4 b5 hb2 hB1 hB2 t6 c0
  go_wp2_with (refine wpList_store_blk rfl 30 (.tmp 4) (.tmp 41) rfl _ 0 [.int .i64 0, .int .i64 (min 128 b), .int .i64 (1 + d), .int .i64 (1 + d + 1), .int .i64 (1 + d + 1 + 1), .int .i64 (1 + d + 1 + 1 + 4 + j)] rfl rfl b7 (by simp) size_group one6 ?_; intro w4 b8 t8)
  refine ret_group rfl rfl b8 rfl ⟨?_, t8.below hB3 (by omega)⟩
  congr 2
  unfold grpA gMap gData
  rw [HM.out, HD.out]
  simp
  omega
end Go.Proofs.Ytbimcdaplnmjdaa
