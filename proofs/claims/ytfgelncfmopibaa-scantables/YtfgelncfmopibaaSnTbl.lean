/-
  P7.3, ScanTables: what is settled, the table of it, and the blocks that are needed are what the document says.
-/
import Derived.Test.YtfgelncfmopibaaSnTabN
import Derived.Test.YtfgelncfmopibaaSnRNd
import Derived.Test.YtfgelncfmopibaaSnBlks
namespace Go.Proofs.Ytfgelncfmopibaa
open Go.RowKit
theorem size9' (l : List Value) (h : l.length = 9) : (Try.prog.info? 56).map (·.size) = some l.length := by rw [h]; kernel_rfl
set_option linter.unusedSimpArgs false in
set_option maxRecDepth 100000 in
set_option maxHeartbeats 8000000 in
theorem scanTables_true (P Lg K : Int) (p q : Option Addr) (n c m d : Nat) (zs : List Pl) (blk : Int) (w : World) (hz : InZ w q m d zs) :
    Calls Try.prog 6 #[.agg #[.int .i64 P, .int .i64 Lg, .int .i64 K, .slice p n c, .slice q m d], .int .i64 blk] w fun e w' => e = .returned (.bool true) ∧ Below w.heap.size w w' := by
  have hb0 := below_alloc w (.cells #[.int .i64 P, .int .i64 Lg, .int .i64 K, .slice p n c, .slice q m d] 39)
  have b2 := Blk.new' w 39 #[.int .i64 P, .int .i64 Lg, .int .i64 K, .slice p n c, .slice q m d]
  cases hf : fewB n m Lg with
  | false =>
    go_enter Try.func6, Try.ntmps6
    go_upto_region 1 with (fail)
    generalize w.alloc (.cells #[.int .i64 P, .int .i64 Lg, .int .i64 K, .slice p n c, .slice q m d] 39) = W0 at *
    go_wp2_with (first | (go_at_call 9; refine (live_any _).mono ?_; rintro e w1 ⟨rfl, hbn⟩; replace b2 := b2.kept hbn; replace hb0 := bt hb0 hbn; clear hbn; have c0 := b2.cell' (i := 0) rfl; have c1 := b2.cell' (i := 1) rfl; have c2 := b2.cell' (i := 2) rfl; have c3 := b2.cell' (i := 3) rfl; have c4 := b2.cell' (i := 4) rfl) | (go_at_call 13; refine (few_any _ _ _ _ _ _ _ _ _ _).mono ?_; rintro e w1 ⟨rfl, hbn⟩; replace b2 := b2.kept hbn; replace hb0 := bt hb0 hbn; clear hbn c0 c1 c2 c3 c4; have c0 := b2.cell' (i := 0) rfl; have c1 := b2.cell' (i := 1) rfl; have c2 := b2.cell' (i := 2) rfl; have c3 := b2.cell' (i := 3) rfl; have c4 := b2.cell' (i := 4) rfl))
    go_ret
    exact ⟨rfl, hb0⟩
  | true =>
    have hm : m ≤ 1000000 := by simp [fewB] at hf; omega
    obtain ⟨x, ok, hs1, hs2⟩ := settled_all P q m d zs blk hm
    obtain ⟨P1, L1, K1, sp, D, H, l, err, HE, ht1, ht2⟩ := tables_all P Lg K q m d zs
    go_enter Try.func6, Try.ntmps6
    go_upto_region 1 with (fail)
    generalize w.alloc (.cells #[.int .i64 P, .int .i64 Lg, .int .i64 K, .slice p n c, .slice q m d] 39) = W0 at *
    go_upto_region 5 with (first | (go_at_call 9; refine (live_any _).mono ?_; rintro e w1 ⟨rfl, hbn⟩; replace b2 := b2.kept hbn; replace hb0 := bt hb0 hbn; clear hbn; have c0 := b2.cell' (i := 0) rfl; have c1 := b2.cell' (i := 1) rfl; have c2 := b2.cell' (i := 2) rfl; have c3 := b2.cell' (i := 3) rfl; have c4 := b2.cell' (i := 4) rfl) | (go_at_call 13; refine (few_any _ _ _ _ _ _ _ _ _ _).mono ?_; rintro e w1 ⟨rfl, hbn⟩; replace b2 := b2.kept hbn; replace hb0 := bt hb0 hbn; clear hbn c0 c1 c2 c3 c4; have c0 := b2.cell' (i := 0) rfl; have c1 := b2.cell' (i := 1) rfl; have c2 := b2.cell' (i := 2) rfl; have c3 := b2.cell' (i := 3) rfl; have c4 := b2.cell' (i := 4) rfl))
    go_upto_region 6 with (go_at_call 21; refine (hs1 _ (hz.below hb0)).mono ?_; rintro e w1 ⟨rfl, hbn⟩; replace b2 := b2.kept hbn; replace hb0 := bt hb0 hbn; clear hbn c0 c1 c2 c3 c4; have c0 := b2.cell' (i := 0) rfl; have c1 := b2.cell' (i := 1) rfl; have c2 := b2.cell' (i := 2) rfl; have c3 := b2.cell' (i := 3) rfl; have c4 := b2.cell' (i := 4) rfl)
    go_upto_region 7 with (go_at_call 22; refine (hs2 _ (hz.below hb0)).mono ?_; rintro e w2 ⟨rfl, hbn⟩; replace b2 := b2.kept hbn; replace hb0 := bt hb0 hbn; clear hbn c0 c1 c2 c3 c4; have c0 := b2.cell' (i := 0) rfl; have c1 := b2.cell' (i := 1) rfl; have c2 := b2.cell' (i := 2) rfl; have c3 := b2.cell' (i := 3) rfl; have c4 := b2.cell' (i := 4) rfl)
    go_upto_region 8 with (first | (go_at_call 23; refine (ht1 _ (hz.below hb0)).mono ?_; rintro e w3 ⟨⟨pd, nd, cd, ph, nh, ch, pl, cl, ql, nl, cl2, rfl, i1, i2, i3⟩, hbn⟩; replace b2 := b2.kept hbn; replace hb0 := bt hb0 hbn; clear hbn c0 c1 c2 c3 c4; have c0 := b2.cell' (i := 0) rfl; have c1 := b2.cell' (i := 1) rfl; have c2 := b2.cell' (i := 2) rfl; have c3 := b2.cell' (i := 3) rfl; have c4 := b2.cell' (i := 4) rfl) | (refine wpList_store_blk rfl 56 (.tmp 9) (.tmp 48) rfl w3.heap.size 0 [.int .i64 P1, .int .i64 L1, .int .i64 K1, .slice pd nd cd, .slice ph nh ch, .int .i64 sp, .int .i64 0, .int .i64 0, .slice pl 0 cl] rfl rfl (Blk.new' w3 56 #[.int .i64 0, .int .i64 0, .int .i64 0, .slice none 0 0, .slice none 0 0, .int .i64 0, .int .i64 0, .int .i64 0, .slice none 0 0]) (by exact Nat.le_refl _) (size9' _ rfl) (by simp [Value.oneCell']) ?_; intro W4 h4 ht4; rw [whole_row (by rfl)] at h4))
    have k4 : Below w3.heap.size w3 W4 := ht4.below (below_alloc w3 _) (Nat.le_refl _)
    replace i1 := i1.below k4
    replace i2 := i2.below k4
    replace i3 := i3.below k4
    have hbn := k4
    replace b2 := b2.kept hbn; replace hb0 := bt hb0 hbn; clear hbn c0 c1 c2 c3 c4; have c0 := b2.cell' (i := 0) rfl; have c1 := b2.cell' (i := 1) rfl; have c2 := b2.cell' (i := 2) rfl; have c3 := b2.cell' (i := 3) rfl; have c4 := b2.cell' (i := 4) rfl
    obtain ⟨g9, Hg9⟩ : ∃ g, g = w3.heap.size := ⟨_, rfl⟩
    rw [← Hg9] at h4 ⊢
    clear Hg9 ht4 k4 hs1 hs2 ht1
    go_upto_region 9 with (first | (go_at_call 24; refine (ht2 _ (hz.below hb0)).mono ?_; rintro e w5 ⟨⟨pd', nd', cd', ph', nh', ch', pl', cl', ql', nl', cl2', rfl, j1, j2, j3⟩, hbn⟩; replace i1 := i1.below hbn; replace i2 := i2.below hbn; replace i3 := i3.below hbn; replace h4 := h4.kept hbn; replace b2 := b2.kept hbn; replace hb0 := bt hb0 hbn; clear hbn c0 c1 c2 c3 c4; have c0 := b2.cell' (i := 0) rfl; have c1 := b2.cell' (i := 1) rfl; have c2 := b2.cell' (i := 2) rfl; have c3 := b2.cell' (i := 3) rfl; have c4 := b2.cell' (i := 4) rfl) | (refine wpList_store_blk rfl 56 (.tmp 12) (.tmp 61) rfl w5.heap.size 0 [.int .i64 P1, .int .i64 L1, .int .i64 K1, .slice pd' nd' cd', .slice ph' nh' ch', .int .i64 sp, .int .i64 0, .int .i64 0, .slice pl' 0 cl'] rfl rfl (Blk.new' w5 56 #[.int .i64 0, .int .i64 0, .int .i64 0, .slice none 0 0, .slice none 0 0, .int .i64 0, .int .i64 0, .int .i64 0, .slice none 0 0]) (by exact Nat.le_refl _) (size9' _ rfl) (by simp [Value.oneCell']) ?_; intro W6 h6 ht6; rw [whole_row (by rfl)] at h6))
    have k6 : Below w5.heap.size w5 W6 := ht6.below (below_alloc w5 _) (Nat.le_refl _)
    replace i1 := i1.below k6
    replace i2 := i2.below k6
    replace i3 := i3.below k6
    replace j1 := j1.below k6
    replace j2 := j2.below k6
    replace j3 := j3.below k6
    replace h4 := h4.kept k6
    have hbn := k6
    replace b2 := b2.kept hbn; replace hb0 := bt hb0 hbn; clear hbn c0 c1 c2 c3 c4; have c0 := b2.cell' (i := 0) rfl; have c1 := b2.cell' (i := 1) rfl; have c2 := b2.cell' (i := 2) rfl; have c3 := b2.cell' (i := 3) rfl; have c4 := b2.cell' (i := 4) rfl
    obtain rfl : nd = nd' := i1.len.symm.trans j1.len
    obtain rfl : nh = nh' := i2.len.symm.trans j2.len
    obtain rfl : nl = nl' := i3.len.symm.trans j3.len
    obtain ⟨g12, Hg12⟩ : ∃ g, g = w5.heap.size := ⟨_, rfl⟩
    rw [← Hg12] at h6 ⊢
    clear Hg12 ht6 k6 ht2 c0 c1 c2 c3 c4 HE
    refine wp_region_noPanic ?_
    refine wp_region_held_drew (S := fun X => Below W6.heap.size W6 X) (by kernel_rfl) ⟨rfl, rfl, rfl, Nat.le_refl _, fun _ _ => rfl⟩ (fun hHeld => ?_)
    refine wpAnyH_take (i := 0) (v := ?_) rfl (by kernel_rfl) (by kernel_rfl) (by kernel_rfl) (fun _ _ _ h => h) (Or.inl ⟨by rfl, ?_⟩) hHeld ?_
    rotate_left
    · intro w' hSw; try dsimp only at hSw
      go_simp; try (with_reducible rfl)
    try simp only [Act.put, List.getElem_toArray, List.getElem_cons_succ, List.getElem_cons_zero, List.setIfInBounds_toArray, List.set_cons_zero, List.set_cons_succ]
    refine wpAnyH_take (i := 1) (v := ?_) rfl (by kernel_rfl) (by kernel_rfl) (by kernel_rfl) (fun _ _ _ h => h) (Or.inl ⟨by rfl, ?_⟩) hHeld ?_
    rotate_left
    · intro w' hSw; try dsimp only at hSw
      go_simp; try (with_reducible rfl)
    try simp only [Act.put, List.getElem_toArray, List.getElem_cons_succ, List.getElem_cons_zero, List.setIfInBounds_toArray, List.set_cons_zero, List.set_cons_succ]
    refine wpAnyH_take (i := 2) (v := ?_) rfl (by kernel_rfl) (by kernel_rfl) (by kernel_rfl) (fun _ _ _ h => h) (Or.inl ⟨by rfl, ?_⟩) hHeld ?_
    rotate_left
    · intro w' hSw; try dsimp only at hSw
      go_simp; try (with_reducible rfl)
    try simp only [Act.put, List.getElem_toArray, List.getElem_cons_succ, List.getElem_cons_zero, List.setIfInBounds_toArray, List.set_cons_zero, List.set_cons_succ]
    refine wpAnyH_take (i := 3) (v := ?_) rfl (by kernel_rfl) (by kernel_rfl) (by kernel_rfl) (fun _ _ _ h => h) (Or.inl ⟨by rfl, ?_⟩) hHeld ?_
    rotate_left
    · intro w' hSw; try dsimp only at hSw
      go_simp; try (with_reducible rfl)
    try simp only [Act.put, List.getElem_toArray, List.getElem_cons_succ, List.getElem_cons_zero, List.setIfInBounds_toArray, List.set_cons_zero, List.set_cons_succ]
    refine wpAnyH_take (i := 4) (v := ?_) rfl (by kernel_rfl) (by kernel_rfl) (by kernel_rfl) (fun _ _ _ h => h) (Or.inl ⟨by rfl, ?_⟩) hHeld ?_
    rotate_left
    · intro w' hSw; try dsimp only at hSw
      go_simp; try (with_reducible rfl)
    try simp only [Act.put, List.getElem_toArray, List.getElem_cons_succ, List.getElem_cons_zero, List.setIfInBounds_toArray, List.set_cons_zero, List.set_cons_succ]
    refine wpAnyH_take (i := 5) (v := ?_) rfl (by kernel_rfl) (by kernel_rfl) (by kernel_rfl) (fun _ _ _ h => h) (Or.inl ⟨by rfl, ?_⟩) hHeld ?_
    rotate_left
    · intro w' hSw; try dsimp only at hSw
      go_simp; try (with_reducible rfl)
    try simp only [Act.put, List.getElem_toArray, List.getElem_cons_succ, List.getElem_cons_zero, List.setIfInBounds_toArray, List.set_cons_zero, List.set_cons_succ]
    refine wpAnyH_take (i := 6) (v := ?_) rfl (by kernel_rfl) (by kernel_rfl) (by kernel_rfl) (fun _ _ _ h => h) (Or.inl ⟨by rfl, ?_⟩) hHeld ?_
    rotate_left
    · intro w' hSw; try dsimp only at hSw
      go_simp; try (with_reducible rfl)
    try simp only [Act.put, List.getElem_toArray, List.getElem_cons_succ, List.getElem_cons_zero, List.setIfInBounds_toArray, List.set_cons_zero, List.set_cons_succ]
    refine wpAnyH_take (i := 7) (v := ?_) rfl (by kernel_rfl) (by kernel_rfl) (by kernel_rfl) (fun _ _ _ h => h) (Or.inl ⟨by rfl, ?_⟩) hHeld ?_
    rotate_left
    · intro w' hSw; try dsimp only at hSw
      go_simp; try (with_reducible rfl)
    try simp only [Act.put, List.getElem_toArray, List.getElem_cons_succ, List.getElem_cons_zero, List.setIfInBounds_toArray, List.set_cons_zero, List.set_cons_succ]
    refine wpAnyH_take (i := 8) (v := ?_) rfl (by kernel_rfl) (by kernel_rfl) (by kernel_rfl) (fun _ _ _ h => h) (Or.inl ⟨by rfl, ?_⟩) hHeld ?_
    rotate_left
    · intro w' hSw; try dsimp only at hSw
      go_simp; try (with_reducible rfl)
    try simp only [Act.put, List.getElem_toArray, List.getElem_cons_succ, List.getElem_cons_zero, List.setIfInBounds_toArray, List.set_cons_zero, List.set_cons_succ]
    refine wpAnyH_take (i := 9) (v := ?_) rfl (by kernel_rfl) (by kernel_rfl) (by kernel_rfl) (fun _ _ _ h => h) (Or.inl ⟨by rfl, ?_⟩) hHeld ?_
    rotate_left
    · intro w' hSw; try dsimp only at hSw
      have y := h4.kept hSw
      have y0 := y.cell' (i := 0) rfl
      have y1 := y.cell' (i := 1) rfl
      have y2 := y.cell' (i := 2) rfl
      have y3 := y.cell' (i := 3) rfl
      have y4 := y.cell' (i := 4) rfl
      have y5 := y.cell' (i := 5) rfl
      have y6 := y.cell' (i := 6) rfl
      have y7 := y.cell' (i := 7) rfl
      have y8 := y.cell' (i := 8) rfl
      go_simp; try (with_reducible rfl)
    try simp only [Act.put, List.getElem_toArray, List.getElem_cons_succ, List.getElem_cons_zero, List.setIfInBounds_toArray, List.set_cons_zero, List.set_cons_succ]
    refine wpAnyH_take (i := 10) (v := ?_) rfl (by kernel_rfl) (by kernel_rfl) (by kernel_rfl) (fun _ _ _ h => h) (Or.inl ⟨by rfl, ?_⟩) hHeld ?_
    rotate_left
    · intro w' hSw; try dsimp only at hSw
      have y := h6.kept hSw
      have y0 := y.cell' (i := 0) rfl
      have y1 := y.cell' (i := 1) rfl
      have y2 := y.cell' (i := 2) rfl
      have y3 := y.cell' (i := 3) rfl
      have y4 := y.cell' (i := 4) rfl
      have y5 := y.cell' (i := 5) rfl
      have y6 := y.cell' (i := 6) rfl
      have y7 := y.cell' (i := 7) rfl
      have y8 := y.cell' (i := 8) rfl
      go_simp; try (with_reducible rfl)
    try simp only [Act.put, List.getElem_toArray, List.getElem_cons_succ, List.getElem_cons_zero, List.setIfInBounds_toArray, List.set_cons_zero, List.set_cons_succ]
    refine wpAnyH_ready (rs := [11]) (by kernel_rfl) (by simp) ?_
    refine AllReadyH.cons rfl (fun K hK => ?_) AllReadyH.nil
    go_simp
    refine (same_yes P1 L1 K1 sp 0 0 pd pd' ph ph' pl pl' nd cd cd' nh ch ch' cl cl' D H _ (i1.below hHeld) (j1.below hHeld) (i2.below hHeld) (j2.below hHeld)).mono ?_
    rintro e X1 ⟨rfl, hx1⟩
    try go_wp2_with fail
    refine hK.out _ _ (bt hHeld hx1) (fun hHeld => ?_)
    clear hK K
    try simp only [Act.put, List.getElem_toArray, List.getElem_cons_succ, List.getElem_cons_zero, List.setIfInBounds_toArray, List.set_cons_zero, List.set_cons_succ]
    refine wpAnyH_take (i := 12) (v := ?_) rfl (by kernel_rfl) (by kernel_rfl) (by kernel_rfl) (fun _ _ _ h => h) (Or.inl ⟨by rfl, ?_⟩) hHeld ?_
    rotate_left
    · intro w' hSw; try dsimp only at hSw
      go_simp; try (with_reducible rfl)
    try simp only [Act.put, List.getElem_toArray, List.getElem_cons_succ, List.getElem_cons_zero, List.setIfInBounds_toArray, List.set_cons_zero, List.set_cons_succ]
    refine wpAnyH_take (i := 13) (v := ?_) rfl (by kernel_rfl) (by kernel_rfl) (by kernel_rfl) (fun _ _ _ h => h) (Or.inl ⟨by rfl, ?_⟩) hHeld ?_
    rotate_left
    · intro w' hSw; try dsimp only at hSw
      go_simp; try (with_reducible rfl)
    try simp only [Act.put, List.getElem_toArray, List.getElem_cons_succ, List.getElem_cons_zero, List.setIfInBounds_toArray, List.set_cons_zero, List.set_cons_succ]
    refine wpAnyH_take (i := 14) (v := ?_) rfl (by kernel_rfl) (by kernel_rfl) (by kernel_rfl) (fun _ _ _ h => h) (Or.inl ⟨by rfl, ?_⟩) hHeld ?_
    rotate_left
    · intro w' hSw; try dsimp only at hSw
      go_simp; try (with_reducible rfl)
    try simp only [Act.put, List.getElem_toArray, List.getElem_cons_succ, List.getElem_cons_zero, List.setIfInBounds_toArray, List.set_cons_zero, List.set_cons_succ]
    refine wpAnyH_take (i := 15) (v := ?_) rfl (by kernel_rfl) (by kernel_rfl) (by kernel_rfl) (fun _ _ _ h => h) (Or.inl ⟨by rfl, ?_⟩) hHeld ?_
    rotate_left
    · intro w' hSw; try dsimp only at hSw
      go_simp; try (with_reducible rfl)
    try simp only [Act.put, List.getElem_toArray, List.getElem_cons_succ, List.getElem_cons_zero, List.setIfInBounds_toArray, List.set_cons_zero, List.set_cons_succ]
    refine wpAnyH_ready (rs := [16]) (by kernel_rfl) (by simp) ?_
    refine AllReadyH.cons rfl (fun K hK => ?_) AllReadyH.nil
    go_simp
    refine (equalI_yes ql ql' nl cl2 cl2' l _ (i3.below hHeld) (j3.below hHeld)).mono ?_
    rintro e X2 ⟨rfl, hx2⟩
    try go_wp2_with fail
    refine hK.out _ _ (bt hHeld hx2) (fun hHeld => ?_)
    clear hK K
    try simp only [Act.put, List.getElem_toArray, List.getElem_cons_succ, List.getElem_cons_zero, List.setIfInBounds_toArray, List.set_cons_zero, List.set_cons_succ]
    refine wpAnyH_take (i := 17) (v := ?_) rfl (by kernel_rfl) (by kernel_rfl) (by kernel_rfl) (fun _ _ _ h => h) (Or.inl ⟨by rfl, ?_⟩) hHeld ?_
    rotate_left
    · intro w' hSw; try dsimp only at hSw
      go_simp; try (with_reducible rfl)
    try simp only [Act.put, List.getElem_toArray, List.getElem_cons_succ, List.getElem_cons_zero, List.setIfInBounds_toArray, List.set_cons_zero, List.set_cons_succ]
    refine wpAnyH_take (i := 18) (v := ?_) rfl (by kernel_rfl) (by kernel_rfl) (by kernel_rfl) (fun _ _ _ h => h) (Or.inl ⟨by rfl, ?_⟩) hHeld ?_
    rotate_left
    · intro w' hSw; try dsimp only at hSw
      go_simp; try (with_reducible rfl)
    try simp only [Act.put, List.getElem_toArray, List.getElem_cons_succ, List.getElem_cons_zero, List.setIfInBounds_toArray, List.set_cons_zero, List.set_cons_succ]
    refine wpAnyH_take (i := 19) (v := ?_) rfl (by kernel_rfl) (by kernel_rfl) (by kernel_rfl) (fun _ _ _ h => h) (Or.inl ⟨by rfl, ?_⟩) hHeld ?_
    rotate_left
    · intro w' hSw; try dsimp only at hSw
      go_simp; try (with_reducible rfl)
    try simp only [Act.put, List.getElem_toArray, List.getElem_cons_succ, List.getElem_cons_zero, List.setIfInBounds_toArray, List.set_cons_zero, List.set_cons_succ]
    refine wpAnyH_take (i := 20) (v := ?_) rfl (by kernel_rfl) (by kernel_rfl) (by kernel_rfl) (fun _ _ _ h => h) (Or.inl ⟨by rfl, ?_⟩) hHeld ?_
    rotate_left
    · intro w' hSw; try dsimp only at hSw
      go_simp; try (with_reducible rfl)
    try simp only [Act.put, List.getElem_toArray, List.getElem_cons_succ, List.getElem_cons_zero, List.setIfInBounds_toArray, List.set_cons_zero, List.set_cons_succ]
    refine wpAnyH_take (i := 21) (v := ?_) rfl (by kernel_rfl) (by kernel_rfl) (by kernel_rfl) (fun _ _ _ h => h) (Or.inl ⟨by rfl, ?_⟩) hHeld ?_
    rotate_left
    · intro w' hSw; try dsimp only at hSw
      go_simp; try (with_reducible rfl)
    try simp only [Act.put, List.getElem_toArray, List.getElem_cons_succ, List.getElem_cons_zero, List.setIfInBounds_toArray, List.set_cons_zero, List.set_cons_succ]
    refine wpAnyH_take (i := 22) (v := ?_) rfl (by kernel_rfl) (by kernel_rfl) (by kernel_rfl) (fun _ _ _ h => h) (Or.inl ⟨by rfl, ?_⟩) hHeld ?_
    rotate_left
    · intro w' hSw; try dsimp only at hSw
      go_simp; try (with_reducible rfl)
    try simp only [Act.put, List.getElem_toArray, List.getElem_cons_succ, List.getElem_cons_zero, List.setIfInBounds_toArray, List.set_cons_zero, List.set_cons_succ]
    refine wpAnyH_take (i := 23) (v := ?_) rfl (by kernel_rfl) (by kernel_rfl) (by kernel_rfl) (fun _ _ _ h => h) (Or.inl ⟨by rfl, ?_⟩) hHeld ?_
    rotate_left
    · intro w' hSw; try dsimp only at hSw
      go_simp; try (with_reducible rfl)
    try simp only [Act.put, List.getElem_toArray, List.getElem_cons_succ, List.getElem_cons_zero, List.setIfInBounds_toArray, List.set_cons_zero, List.set_cons_succ]
    refine wpAnyH_take (i := 24) (v := ?_) rfl (by kernel_rfl) (by kernel_rfl) (by kernel_rfl) (fun _ _ _ h => h) (Or.inl ⟨by rfl, ?_⟩) hHeld ?_
    rotate_left
    · intro w' hSw; try dsimp only at hSw
      go_simp; try (with_reducible rfl)
    try simp only [Act.put, List.getElem_toArray, List.getElem_cons_succ, List.getElem_cons_zero, List.setIfInBounds_toArray, List.set_cons_zero, List.set_cons_succ]
    refine wpAnyH_take (i := 25) (v := ?_) rfl (by kernel_rfl) (by kernel_rfl) (by kernel_rfl) (fun _ _ _ h => h) (Or.inl ⟨by rfl, ?_⟩) hHeld ?_
    rotate_left
    · intro w' hSw; try dsimp only at hSw
      have y := b2.kept hSw
      have y4 := y.cell' (i := 4) rfl
      go_simp; try (with_reducible rfl)
    try simp only [Act.put, List.getElem_toArray, List.getElem_cons_succ, List.getElem_cons_zero, List.setIfInBounds_toArray, List.set_cons_zero, List.set_cons_succ]
    refine wpAnyH_take (i := 27) (v := ?_) rfl (by kernel_rfl) (by kernel_rfl) (by kernel_rfl) (fun _ _ _ h => h) (Or.inl ⟨by rfl, ?_⟩) hHeld ?_
    rotate_left
    · intro w' hSw; try dsimp only at hSw
      go_simp; try (with_reducible rfl)
    try simp only [Act.put, List.getElem_toArray, List.getElem_cons_succ, List.getElem_cons_zero, List.setIfInBounds_toArray, List.set_cons_zero, List.set_cons_succ]
    refine wpAnyH_take (i := 28) (v := ?_) rfl (by kernel_rfl) (by kernel_rfl) (by kernel_rfl) (fun _ _ _ h => h) (Or.inl ⟨by rfl, ?_⟩) hHeld ?_
    rotate_left
    · intro w' hSw; try dsimp only at hSw
      have y := b2.kept hSw
      have y4 := y.cell' (i := 4) rfl
      go_simp; try (with_reducible rfl)
    try simp only [Act.put, List.getElem_toArray, List.getElem_cons_succ, List.getElem_cons_zero, List.setIfInBounds_toArray, List.set_cons_zero, List.set_cons_succ]
    refine wpAnyH_ready (rs := [26]) (by kernel_rfl) (by simp) ?_
    refine AllReadyH.cons rfl (fun K hK => ?_) AllReadyH.nil
    go_simp
    refine (blocks_any q m d zs _ ((hz.below hb0).below hHeld) hm).mono ?_
    rintro e X3 ⟨p3, c3, rfl, ho3, hx3⟩
    try go_wp2_with fail
    refine hK.out _ _ (bt hHeld hx3) (fun hHeld => ?_)
    clear hK K
    try simp only [Act.put, List.getElem_toArray, List.getElem_cons_succ, List.getElem_cons_zero, List.setIfInBounds_toArray, List.set_cons_zero, List.set_cons_succ]
    have hnl : (neededL zs).length ≤ 1000000 := Nat.le_trans (needed_le zs) (by rw [hz.len]; exact hm)
    refine wpAnyH_ready (rs := [29]) (by kernel_rfl) (by simp) ?_
    refine AllReadyH.cons rfl (fun K hK => ?_) AllReadyH.nil
    go_simp
    refine (neededR_any q m d zs _ ((hz.below hb0).below hHeld) hm).mono ?_
    rintro e X4 ⟨p4, c4, rfl, ho4, hx4⟩
    try go_wp2_with fail
    refine hK.out _ _ (bt hHeld hx4) (fun hHeld => ?_)
    clear hK K
    try simp only [Act.put, List.getElem_toArray, List.getElem_cons_succ, List.getElem_cons_zero, List.setIfInBounds_toArray, List.set_cons_zero, List.set_cons_succ]
    obtain ⟨p3', c3', e3, i4⟩ := in_of_ownsI (owns_below ho3 hx4) (by omega)
    obtain ⟨p4', c4', e4, j4⟩ := in_of_ownsI ho4 (by omega)
    cases e3
    cases e4
    generalize neededL zs = X at *
    refine wpAnyH_ready (rs := [30]) (by kernel_rfl) (by simp) ?_
    refine AllReadyH.cons rfl (fun K hK => ?_) AllReadyH.nil
    go_simp
    refine (equalI_yes _ _ _ _ _ _ _ i4 j4).mono ?_
    rintro e X5 ⟨rfl, hx5⟩
    try go_wp2_with fail
    refine hK.out _ _ (bt hHeld hx5) (fun hHeld => ?_)
    clear hK K
    try simp only [Act.put, List.getElem_toArray, List.getElem_cons_succ, List.getElem_cons_zero, List.setIfInBounds_toArray, List.set_cons_zero, List.set_cons_succ]
    refine wpAnyH_take (i := 31) (v := ?_) rfl (by kernel_rfl) (by kernel_rfl) (by kernel_rfl) (fun _ _ _ h => h) (Or.inl ⟨by rfl, ?_⟩) hHeld ?_
    rotate_left
    · intro w' hSw; try dsimp only at hSw
      go_simp; try (with_reducible rfl)
    try simp only [Act.put, List.getElem_toArray, List.getElem_cons_succ, List.getElem_cons_zero, List.setIfInBounds_toArray, List.set_cons_zero, List.set_cons_succ]
    refine wpAnyH_take (i := 32) (v := ?_) rfl (by kernel_rfl) (by kernel_rfl) (by kernel_rfl) (fun _ _ _ h => h) (Or.inl ⟨by rfl, ?_⟩) hHeld ?_
    rotate_left
    · intro w' hSw; try dsimp only at hSw
      go_simp; try (with_reducible rfl)
    try simp only [Act.put, List.getElem_toArray, List.getElem_cons_succ, List.getElem_cons_zero, List.setIfInBounds_toArray, List.set_cons_zero, List.set_cons_succ]
    refine wpAnyH_done (by kernel_rfl) ?_ _
    refine NoPanic.normal ?_
    go_wp2_with fail
    go_ret
    exact ⟨rfl, bt hb0 hHeld⟩
end Go.Proofs.Ytfgelncfmopibaa
