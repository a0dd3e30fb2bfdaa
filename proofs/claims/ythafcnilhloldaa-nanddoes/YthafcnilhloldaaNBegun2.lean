/-
  The first look at a chip whole.
-/
import Derived.Test.YthafcnilhloldaaNMake
namespace Go.Proofs.Ythafcnilhloldaa
open Go.RowKit
/-- What a chip stands in lies in memory. -/
theorem ChipIn.lt {w : World} {c : Nat} {s : St} {bb : Nat} {PV : Nat → Value} (h : ChipIn w c s bb PV) {k : Nat} (hk : fpOf c bb PV s.nb k) : k < w.heap.size := by
  rcases hk with rfl | rfl | ⟨i, hi, he⟩
  · obtain ⟨_, _, _, hc, _⟩ := h.chip; exact hc.lt
  · obtain ⟨_, hB, _⟩ := h.blks; exact hB.lt
  · obtain ⟨b, hb⟩ := h.get i hi
    exact ((h.pg i b hb).row.lt k he).2
theorem Blk.page {w : World} {g : Nat} {t : TypeId} {P : List Nat} (h : Blk w g t (vals P)) (hl : P.length = 288) : w.rangeAt g 0 (vals P) :=
  h.range 0 288 _ (by rw [List.drop_zero, List.take_of_length_le (by rw [vals_length, hl]; exact Nat.le_refl _)])
/-- The chip, and where it lies. -/
def Apart (B G3 G4 c bb : Nat) (w' : World) : Prop := ∃ PV, ChipIn w' c st3 bb PV ∧ ∀ k, fpOf c bb PV 16 k → B ≤ k ∧ k ≠ G3 ∧ k ≠ G4
theorem Apart.below {B G3 G4 c bb : Nat} {w w' : World} (h : Apart B G3 G4 c bb w) (hb : Below w.heap.size w w') : Apart B G3 G4 c bb w' := by
  obtain ⟨PV, hC, hk⟩ := h
  exact ⟨PV, hC.below hb, hk⟩
set_option linter.unusedSimpArgs false in
set_option maxRecDepth 100000 in
set_option maxHeartbeats 2000000 in
theorem begun_any (w : World) : Calls Try.prog 11 #[] w fun e w' => e = .returned (.bool true) ∧ Below w.heap.size w w' := by
  have hsrc := src0 w
  have hnew := new_nil 16 4 _ 1 1 [ev0] _ _ hsrc geo0 ok0
  have hq1 := fun W => run_equalIn_page W (fillP 1) (fillP 1) (fillP_length _) (fillP_length _)
  rw [show (fillP 1 == fillP 1) = true from by simp] at hq1
  have hq2 := fun W => run_equalIn_page W (fillP 255) (fillP 255) (fillP_length _) (fillP_length _)
  rw [show (fillP 255 == fillP 255) = true from by simp] at hq2
  go_enter Try.func11, Try.ntmps11
  go_wp2_with (go_at_call 9; refine hnew.mono ?_; rintro e w1 ⟨hb1, c, bb, rfl, hc1, hbb1, hC1⟩)
  clear hnew hsrc
  refine (page_any 1 _).mono ?_
  rintro e w2 ⟨rfl, hb2⟩
  go_wp2_with fail
  refine (prog_any c st0 bb _ 0 0 (fillP 1) _ (hC1.below hb2) (isP_fill 1 (by omega)) (by rw [bo0]; omega)).mono ?_
  rintro e w3 ⟨rfl, PV3, hC3, hfp3, hk3⟩
  rw [be0]
  go_wp2_with fail
  refine (page_any 2 _).mono ?_
  rintro e w4 ⟨rfl, hb4⟩
  go_wp2_with fail
  refine (prog_any c st1 bb _ 0 1 (fillP 2) _ (hC3.below hb4) (isP_fill 2 (by omega)) (by rw [bo1]; omega)).mono ?_
  rintro e w5 ⟨rfl, PV5, hC5, hfp5, hk5⟩
  rw [be1]
  obtain ⟨ep5, el5, ec5, hc5, _⟩ := hC5.chip
  go_wp2_with fail
  refine (restart_any c _ 16 16 st2.on _ (by omega) (hc5.cell' (i := 2) rfl) (hc5.cell' (i := 5) rfl) (hc5.frozen 5)).mono ?_
  rintro e w6 ⟨rfl, rfl⟩
  have hC6 : ChipIn _ c st3 bb PV5 := hC5.restart
  have hz := zeroPage
  generalize hw6 : w5.setCell ⟨c, 5, none⟩ (.bool true) = w6 at *
  go_wp2_with fail
  refine (read_any c st3 bb PV5 0 0 _ hC6).mono ?_
  rintro e w7 ⟨rfl, hb7⟩
  rw [brE0, if_pos rfl, show readP st3 (0 : Int).toNat (0 : Int).toNat = fillP 1 from br0]
  go_wp2_with (refine wpList_store_blk rfl 46 (.tmp 3) _ rfl _ _ (vals (fillP 1)) rfl rfl (Blk.new w7 46 (vals (fillP 0))) (by rw [vals_length, vals_length, fillP_length, fillP_length]; exact Nat.le_refl _) (sizeP (fillP_length _)) (vals_one _) ?_; intro w8 h8 ht8; rw [whole_row (by rw [vals_length, vals_length, fillP_length, fillP_length])] at h8)
  have k8 : Below w6.heap.size w6 w8 := ht8.below (bt hb7 (below_alloc w7 _)) hb7.size
  refine (read_any c st3 bb PV5 0 1 _ (hC6.below k8)).mono ?_
  rintro e w9 ⟨rfl, hb9⟩
  rw [brE1, if_pos rfl, show readP st3 (0 : Int).toNat (1 : Int).toNat = fillP 255 from br1]
  have h9 := h8.kept hb9
  go_wp2_with (refine wpList_store_blk rfl 46 (.tmp 4) _ rfl _ _ (vals (fillP 255)) rfl rfl (Blk.new w9 46 (vals (fillP 0))) (by rw [vals_length, vals_length, fillP_length, fillP_length]; exact Nat.le_refl _) (sizeP (fillP_length _)) (vals_one _) ?_; intro w10 h10 ht10; rw [whole_row (by rw [vals_length, vals_length, fillP_length, fillP_length])] at h10)
  have h3a := (h9.alloc (.cells (vals (fillP 0)).toArray 46)).turned ht10 (by have := h9.lt; omega)
  have k10 : Below w6.heap.size w6 w10 := ht10.below (bt (bt k8 hb9) (below_alloc w9 _)) (by have := k8.size; have := hb9.size; omega)
  have hC10 := hC6.below k10
  have hG3 := h3a.lt
  have hG4 := h10.lt
  have a1 : Below w.heap.size w w1 := bt ((below_alloc w _).alloc (by simp) _) hb1
  have hcw : w.heap.size ≤ c := by simp only [World.size_alloc] at hc1; omega
  have hbw : w.heap.size ≤ bb := by simp only [World.size_alloc] at hbb1; omega
  have f0 : ∀ k, fpOf c bb (fun _ => .slice none 0 0) 16 k → w.heap.size ≤ k := by
    rintro k (rfl | rfl | ⟨i, _, he⟩)
    · exact hcw
    · exact hbw
    · cases he
  have a2 := bt a1 hb2
  have f3 : ∀ k, fpOf c bb PV3 16 k → w.heap.size ≤ k := fun k hk => (hfp3 k hk).elim (f0 k) (fun h => Nat.le_trans a2.size h)
  have a3 := bt (a2.trans (hk3.below a2.size f0)) hb4
  have f5 : ∀ k, fpOf c bb PV5 16 k → w.heap.size ≤ k := fun k hk => (hfp5 k hk).elim (f3 k) (fun h => Nat.le_trans a3.size h)
  have a5 := a3.trans (hk5.below a3.size f3)
  have a6 : Below w.heap.size w5 w6 := by rw [← hw6]; exact ((Keep.refl (fun k => k = c) w5).setCell ⟨c, 5, none⟩ (.bool true) rfl).below a5.size (fun k e => e ▸ hcw)
  have a10 := bt (a5.trans a6) k10
  have hx3 : w6.heap.size ≤ w7.heap.size := hb7.size
  have hx4 : w6.heap.size ≤ w9.heap.size := by have := k8.size; have := hb9.size; omega
  have hA : Apart w.heap.size w7.heap.size w9.heap.size c bb w10 := ⟨PV5, hC10, fun k hk => ⟨f5 k hk, by have := hC6.lt hk; omega, by have := hC6.lt hk; omega⟩⟩
  generalize w7.heap.size = G3 at *
  generalize w9.heap.size = G4 at *
  go_wp2_with fail
  refine wp_region_noPanic ?_
  refine wp_region_held_drew (S := fun w' => Blk w' G3 46 (vals (fillP 1)) ∧ Blk w' G4 46 (vals (fillP 255)) ∧ Apart w.heap.size G3 G4 c bb w') (by kernel_rfl) ⟨h3a.drew, h10.drew, hA.below ((Below.refl _ _).drew)⟩ (fun hHeld => ?_)
  refine wpAnyH_take (i := 0) (v := ?_) rfl (by kernel_rfl) (by kernel_rfl) (by kernel_rfl) (fun _ _ _ h => h) (Or.inl ⟨by rfl, ?_⟩) hHeld ?_
  rotate_left
  · intro w hSw; try dsimp only at hSw
    go_simp; try (with_reducible rfl)
  try simp only [Act.put, List.getElem_toArray, List.getElem_cons_succ, List.getElem_cons_zero, List.setIfInBounds_toArray, List.set_cons_zero, List.set_cons_succ]
  refine wpAnyH_take (i := 1) (v := ?_) rfl (by kernel_rfl) (by kernel_rfl) (by kernel_rfl) (fun _ _ _ h => h) (Or.inl ⟨by rfl, ?_⟩) hHeld ?_
  rotate_left
  · intro w hSw; try dsimp only at hSw
    go_simp; try (with_reducible rfl)
  try simp only [Act.put, List.getElem_toArray, List.getElem_cons_succ, List.getElem_cons_zero, List.setIfInBounds_toArray, List.set_cons_zero, List.set_cons_succ]
  refine wpAnyH_take (i := 2) (v := ?_) rfl (by kernel_rfl) (by kernel_rfl) (by kernel_rfl) (fun _ _ _ h => h) (Or.inl ⟨by rfl, ?_⟩) hHeld ?_
  rotate_left
  · intro w hSw; try dsimp only at hSw
    go_simp; try (with_reducible rfl)
  try simp only [Act.put, List.getElem_toArray, List.getElem_cons_succ, List.getElem_cons_zero, List.setIfInBounds_toArray, List.set_cons_zero, List.set_cons_succ]
  refine wpAnyH_take (i := 3) (v := ?_) rfl (by kernel_rfl) (by kernel_rfl) (by kernel_rfl) (fun _ _ _ h => h) (Or.inl ⟨by rfl, ?_⟩) hHeld ?_
  rotate_left
  · intro w hSw; try dsimp only at hSw
    go_simp; try (with_reducible rfl)
  try simp only [Act.put, List.getElem_toArray, List.getElem_cons_succ, List.getElem_cons_zero, List.setIfInBounds_toArray, List.set_cons_zero, List.set_cons_succ]
  refine wpAnyH_take (i := 4) (v := ?_) rfl (by kernel_rfl) (by kernel_rfl) (by kernel_rfl) (fun _ _ _ h => h) (Or.inl ⟨by rfl, ?_⟩) hHeld ?_
  rotate_left
  · intro w hSw; try dsimp only at hSw
    go_simp; try (with_reducible rfl)
  try simp only [Act.put, List.getElem_toArray, List.getElem_cons_succ, List.getElem_cons_zero, List.setIfInBounds_toArray, List.set_cons_zero, List.set_cons_succ]
  refine wpAnyH_take (i := 5) (v := ?_) rfl (by kernel_rfl) (by kernel_rfl) (by kernel_rfl) (fun _ _ _ h => h) (Or.inl ⟨by rfl, ?_⟩) hHeld ?_
  rotate_left
  · intro w hSw; try dsimp only at hSw
    go_simp; try (with_reducible rfl)
  try simp only [Act.put, List.getElem_toArray, List.getElem_cons_succ, List.getElem_cons_zero, List.setIfInBounds_toArray, List.set_cons_zero, List.set_cons_succ]
  refine wpAnyH_take (i := 6) (v := ?_) rfl (by kernel_rfl) (by kernel_rfl) (by kernel_rfl) (fun _ _ _ h => h) (Or.inl ⟨by rfl, ?_⟩) hHeld ?_
  rotate_left
  · intro w hSw; try dsimp only at hSw
    go_simp; try (with_reducible rfl)
  try simp only [Act.put, List.getElem_toArray, List.getElem_cons_succ, List.getElem_cons_zero, List.setIfInBounds_toArray, List.set_cons_zero, List.set_cons_succ]
  refine wpAnyH_take (i := 7) (v := .agg (vals (fillP 1)).toArray) rfl (by kernel_rfl) (by kernel_rfl) (by kernel_rfl) (fun _ _ _ h => h) (yieldsIf_load_mid (by rfl) _ _ rfl (G3) 0 rfl (vals (fillP 1)) _ (fun w hSw => hSw.1.page (fillP_length _)) Try.underlying46 rfl (sizeP (fillP_length _))) hHeld ?_
  try simp only [Act.put, List.getElem_toArray, List.getElem_cons_succ, List.getElem_cons_zero, List.setIfInBounds_toArray, List.set_cons_zero, List.set_cons_succ]
  refine wpAnyH_ready (rs := [8]) (by kernel_rfl) (by simp) ?_
  refine AllReadyH.cons rfl (fun K hK => ?_) AllReadyH.nil
  go_simp
  refine (page_any 1 _).mono ?_
  rintro e W8 ⟨rfl, g1⟩
  try go_wp2_with fail
  refine hK.out _ _ ⟨hHeld.1.kept g1, hHeld.2.1.kept g1, hHeld.2.2.below g1⟩ (fun hHeld => ?_)
  clear hK K
  try simp only [Act.put, List.getElem_toArray, List.getElem_cons_succ, List.getElem_cons_zero, List.setIfInBounds_toArray, List.set_cons_zero, List.set_cons_succ]
  refine wpAnyH_take (i := 9) (v := ?_) rfl (by kernel_rfl) (by kernel_rfl) (by kernel_rfl) (fun _ _ _ h => h) (Or.inl ⟨by rfl, ?_⟩) hHeld ?_
  rotate_left
  · intro w hSw; try dsimp only at hSw
    go_simp; try (with_reducible rfl)
  try simp only [Act.put, List.getElem_toArray, List.getElem_cons_succ, List.getElem_cons_zero, List.setIfInBounds_toArray, List.set_cons_zero, List.set_cons_succ]
  refine wpAnyH_take (i := 10) (v := ?_) rfl (by kernel_rfl) (by kernel_rfl) (by kernel_rfl) (fun _ _ _ h => h) (Or.inl ⟨by rfl, ?_⟩) hHeld ?_
  rotate_left
  · intro w hSw; try dsimp only at hSw
    go_simp; try (with_reducible rfl)
  try simp only [Act.put, List.getElem_toArray, List.getElem_cons_succ, List.getElem_cons_zero, List.setIfInBounds_toArray, List.set_cons_zero, List.set_cons_succ]
  refine wpAnyH_take (i := 11) (v := ?_) rfl (by kernel_rfl) (by kernel_rfl) (by kernel_rfl) (fun _ _ _ h => h) (Or.inl ⟨by rfl, ?_⟩) hHeld ?_
  rotate_left
  · intro w hSw; try dsimp only at hSw
    go_simp; try (with_reducible rfl)
  try simp only [Act.put, List.getElem_toArray, List.getElem_cons_succ, List.getElem_cons_zero, List.setIfInBounds_toArray, List.set_cons_zero, List.set_cons_succ]
  refine wpAnyH_take (i := 12) (v := .agg (vals (fillP 255)).toArray) rfl (by kernel_rfl) (by kernel_rfl) (by kernel_rfl) (fun _ _ _ h => h) (yieldsIf_load_mid (by rfl) _ _ rfl (G4) 0 rfl (vals (fillP 255)) _ (fun w hSw => hSw.2.1.page (fillP_length _)) Try.underlying46 rfl (sizeP (fillP_length _))) hHeld ?_
  try simp only [Act.put, List.getElem_toArray, List.getElem_cons_succ, List.getElem_cons_zero, List.setIfInBounds_toArray, List.set_cons_zero, List.set_cons_succ]
  refine wpAnyH_ready (rs := [13]) (by kernel_rfl) (by simp) ?_
  refine AllReadyH.cons rfl (fun K hK => ?_) AllReadyH.nil
  go_simp
  refine (page_any 255 _).mono ?_
  rintro e W13 ⟨rfl, g2⟩
  try go_wp2_with fail
  refine hK.out _ _ ⟨hHeld.1.kept g2, hHeld.2.1.kept g2, hHeld.2.2.below g2⟩ (fun hHeld => ?_)
  clear hK K
  try simp only [Act.put, List.getElem_toArray, List.getElem_cons_succ, List.getElem_cons_zero, List.setIfInBounds_toArray, List.set_cons_zero, List.set_cons_succ]
  refine wpAnyH_take (i := 14) (v := ?_) rfl (by kernel_rfl) (by kernel_rfl) (by kernel_rfl) (fun _ _ _ h => h) (Or.inl ⟨by rfl, ?_⟩) hHeld ?_
  rotate_left
  · intro w hSw; try dsimp only at hSw
    go_simp; try (with_reducible rfl)
  try simp only [Act.put, List.getElem_toArray, List.getElem_cons_succ, List.getElem_cons_zero, List.setIfInBounds_toArray, List.set_cons_zero, List.set_cons_succ]
  refine wpAnyH_take (i := 15) (v := ?_) rfl (by kernel_rfl) (by kernel_rfl) (by kernel_rfl) (fun _ _ _ h => h) (Or.inl ⟨by rfl, ?_⟩) hHeld ?_
  rotate_left
  · intro w hSw; try dsimp only at hSw
    go_simp; try (with_reducible rfl)
  try simp only [Act.put, List.getElem_toArray, List.getElem_cons_succ, List.getElem_cons_zero, List.setIfInBounds_toArray, List.set_cons_zero, List.set_cons_succ]
  refine wpAnyH_take (i := 16) (v := ?_) rfl (by kernel_rfl) (by kernel_rfl) (by kernel_rfl) (fun _ _ _ h => h) (Or.inl ⟨by rfl, ?_⟩) hHeld ?_
  rotate_left
  · intro w hSw; try dsimp only at hSw
    go_simp; try (with_reducible rfl)
  try simp only [Act.put, List.getElem_toArray, List.getElem_cons_succ, List.getElem_cons_zero, List.setIfInBounds_toArray, List.set_cons_zero, List.set_cons_succ]
  refine wpAnyH_take (i := 17) (v := ?_) rfl (by kernel_rfl) (by kernel_rfl) (by kernel_rfl) (fun _ _ _ h => h) (Or.inl ⟨by rfl, ?_⟩) hHeld ?_
  rotate_left
  · intro w hSw; try dsimp only at hSw
    go_simp; try (with_reducible rfl)
  try simp only [Act.put, List.getElem_toArray, List.getElem_cons_succ, List.getElem_cons_zero, List.setIfInBounds_toArray, List.set_cons_zero, List.set_cons_succ]
  refine wpAnyH_ready (rs := [18]) (by kernel_rfl) (by simp) ?_
  refine AllReadyH.cons rfl (fun K hK => ?_) AllReadyH.nil
  go_simp
  refine (page_any 2 _).mono ?_
  rintro e W18 ⟨rfl, g3⟩
  try go_wp2_with fail
  refine hK.out _ _ ⟨hHeld.1.kept g3, hHeld.2.1.kept g3, hHeld.2.2.below g3⟩ (fun hHeld => ?_)
  clear hK K
  try simp only [Act.put, List.getElem_toArray, List.getElem_cons_succ, List.getElem_cons_zero, List.setIfInBounds_toArray, List.set_cons_zero, List.set_cons_succ]
  refine wpAnyH_ready (rs := [19]) (by kernel_rfl) (by simp) ?_
  refine AllReadyH.cons rfl (fun K hK => ?_) AllReadyH.nil
  obtain ⟨PV7, hC7, hk7⟩ := hHeld.2.2
  have hx := prog_any c st3 bb PV7 0 1 (fillP 2) W18 hC7 (isP_fill 2 (by omega)) (by rw [bo3]; omega)
  rw [be3, bs3] at hx
  go_simp
  refine hx.mono ?_
  rintro e W19 ⟨rfl, PV8, hC8, hfp8, hkp8⟩
  clear hx
  have hH : Blk W19 G3 46 (vals (fillP 1)) ∧ Blk W19 G4 46 (vals (fillP 255)) ∧ Apart w.heap.size G3 G4 c bb W19 := ⟨hHeld.1.keep hkp8 (fun e => (hk7 _ e).2.1 rfl), hHeld.2.1.keep hkp8 (fun e => (hk7 _ e).2.2 rfl), PV8, hC8, fun k hk => by { have l3 := hHeld.1.lt; have l4 := hHeld.2.1.lt; have q1 := (Below.refl w10.heap.size w10).drew; have q2 := q1.trans (g1.mono q1.size); have q3 := q2.trans (g2.mono q2.size); have q4 := (q3.trans (g3.mono q3.size)).size; exact (hfp8 k hk).elim (fun h => hk7 k h) (fun h => ⟨by have := a10.size; omega, by omega, by omega⟩) }⟩
  try go_wp2_with fail
  refine hK.out _ _ hH (fun hHeld => ?_)
  clear hK K
  try simp only [Act.put, List.getElem_toArray, List.getElem_cons_succ, List.getElem_cons_zero, List.setIfInBounds_toArray, List.set_cons_zero, List.set_cons_succ]
  refine wpAnyH_take (i := 20) (v := ?_) rfl (by kernel_rfl) (by kernel_rfl) (by kernel_rfl) (fun _ _ _ h => h) (Or.inl ⟨by rfl, ?_⟩) hHeld ?_
  rotate_left
  · intro w hSw; try dsimp only at hSw
    go_simp; try (with_reducible rfl)
  try simp only [Act.put, List.getElem_toArray, List.getElem_cons_succ, List.getElem_cons_zero, List.setIfInBounds_toArray, List.set_cons_zero, List.set_cons_succ]
  refine wpAnyH_take (i := 21) (v := ?_) rfl (by kernel_rfl) (by kernel_rfl) (by kernel_rfl) (fun _ _ _ h => h) (Or.inl ⟨by rfl, ?_⟩) hHeld ?_
  rotate_left
  · intro w hSw; try dsimp only at hSw
    go_simp; try (with_reducible rfl)
  try simp only [Act.put, List.getElem_toArray, List.getElem_cons_succ, List.getElem_cons_zero, List.setIfInBounds_toArray, List.set_cons_zero, List.set_cons_succ]
  refine wpAnyH_take (i := 22) (v := ?_) rfl (by kernel_rfl) (by kernel_rfl) (by kernel_rfl) (fun _ _ _ h => h) (Or.inl ⟨by rfl, ?_⟩) hHeld ?_
  rotate_left
  · intro w hSw; try dsimp only at hSw
    go_simp; try (with_reducible rfl)
  try simp only [Act.put, List.getElem_toArray, List.getElem_cons_succ, List.getElem_cons_zero, List.setIfInBounds_toArray, List.set_cons_zero, List.set_cons_succ]
  refine wpAnyH_take (i := 23) (v := ?_) rfl (by kernel_rfl) (by kernel_rfl) (by kernel_rfl) (fun _ _ _ h => h) (Or.inl ⟨by rfl, ?_⟩) hHeld ?_
  rotate_left
  · intro w hSw; try dsimp only at hSw
    go_simp; try (with_reducible rfl)
  try simp only [Act.put, List.getElem_toArray, List.getElem_cons_succ, List.getElem_cons_zero, List.setIfInBounds_toArray, List.set_cons_zero, List.set_cons_succ]
  refine wpAnyH_ready (rs := [24]) (by kernel_rfl) (by simp) ?_
  refine AllReadyH.cons rfl (fun K hK => ?_) AllReadyH.nil
  obtain ⟨PV9, hC9, hk9⟩ := hHeld.2.2
  obtain ⟨ep9, el9, ec9, hc9, _⟩ := hC9.chip
  have hx := ops_any c _ 16 16 st3.ops W19 (by omega) (hc9.cell' (i := 2) rfl) (hc9.cell' (i := 4) rfl)
  rw [bo3] at hx
  go_simp
  refine hx.mono ?_
  rintro e W24 ⟨rfl, hW24⟩
  subst hW24
  clear hx
  try go_wp2_with fail
  refine hK.out _ _ hHeld (fun hHeld => ?_)
  clear hK K
  try simp only [Act.put, List.getElem_toArray, List.getElem_cons_succ, List.getElem_cons_zero, List.setIfInBounds_toArray, List.set_cons_zero, List.set_cons_succ]
  refine wpAnyH_take (i := 25) (v := ?_) rfl (by kernel_rfl) (by kernel_rfl) (by kernel_rfl) (fun _ _ _ h => h) (Or.inl ⟨by rfl, ?_⟩) hHeld ?_
  rotate_left
  · intro w hSw; try dsimp only at hSw
    go_simp; try (with_reducible rfl)
  try simp only [Act.put, List.getElem_toArray, List.getElem_cons_succ, List.getElem_cons_zero, List.setIfInBounds_toArray, List.set_cons_zero, List.set_cons_succ]
  refine wpAnyH_take (i := 26) (v := ?_) rfl (by kernel_rfl) (by kernel_rfl) (by kernel_rfl) (fun _ _ _ h => h) (Or.inl ⟨by rfl, ?_⟩) hHeld ?_
  rotate_left
  · intro w hSw; try dsimp only at hSw
    go_simp; try (with_reducible rfl)
  try simp only [Act.put, List.getElem_toArray, List.getElem_cons_succ, List.getElem_cons_zero, List.setIfInBounds_toArray, List.set_cons_zero, List.set_cons_succ]
  refine wpAnyH_take (i := 27) (v := ?_) rfl (by kernel_rfl) (by kernel_rfl) (by kernel_rfl) (fun _ _ _ h => h) (Or.inl ⟨by rfl, ?_⟩) hHeld ?_
  rotate_left
  · intro w hSw; try dsimp only at hSw
    go_simp; try (with_reducible rfl)
  try simp only [Act.put, List.getElem_toArray, List.getElem_cons_succ, List.getElem_cons_zero, List.setIfInBounds_toArray, List.set_cons_zero, List.set_cons_succ]
  refine wpAnyH_done (by kernel_rfl) ?_ _
  refine NoPanic.normal ?_
  go_wp2
  go_ret
  have z1 := bt (bt (bt a10.drew g1) g2) g3
  exact ⟨rfl, z1.trans (hkp8.below z1.size (fun k e => (hk7 k e).1))⟩
end Go.Proofs.Ythafcnilhloldaa
