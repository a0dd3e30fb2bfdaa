/-
  ExtentMakes returns true.
-/
import Derived.Test.YtmboohadindlfaaXtRQ
namespace Go.Proofs.Ytmboohadindlfaa
open Go.RowKit
set_option linter.unusedSimpArgs false in
set_option linter.unusedVariables false in
set_option maxRecDepth 100000 in
set_option maxHeartbeats 4000000 in
theorem makes_walk (p : Option Addr) (n c : Nat) (l : List Ext) (e : Ext) (m : Int) (w : World) (h : InE w p n c l) :
    Calls Try.prog 4 #[.slice p n c, e.val, .int .i64 m] w fun x w' => x = .returned (.bool true) ∧ Below w.heap.size w w' := by
  have HLN : Hid (l.length = n) := h.len
  obtain ⟨i0, hi, hz0, hz1, hz2⟩ := info_parts infoE
  have hb0 := below_alloc w (.cells #[.int .i64 e.lo, .int .i64 e.ln, .int .i64 e.ph] 31)
  have k0 := Blk.new' w 31 #[.int .i64 e.lo, .int .i64 e.ln, .int .i64 e.ph]
  have hroom := h.room
  go_enter Try.func4, Try.ntmps4
  go_wp2_with fail
  refine (live_any _).mono ?_
  rintro e9 w1 ⟨rfl, hb1⟩
  have k1 := k0.kept hb1
  have b1 := bt hb0 hb1
  clear k0 hb0 hb1
  have hf := few_one w1.heap.size p n c (w1.alloc (.cells #[.slice p n c] 22)) ((Blk.new' w1 22 #[.slice p n c]).cell' (i := 0) rfl) hroom
  have k2 := k1.alloc (.cells #[.slice p n c] 22)
  have b2 := below_al b1 (.cells #[.slice p n c] 22)
  clear k1 b1
  by_cases h200 : n ≤ 200
  rotate_left
  · rw [decide_eq_false h200] at hf
    go_wp2_with fail
    refine hf.mono ?_
    rintro e9 w2 ⟨rfl, rfl⟩
    go_wp2
    go_ret
    exact ⟨rfl, b2⟩
  rw [decide_eq_true h200] at hf
  go_wp2_with fail
  refine hf.mono ?_
  rintro e9 w2 ⟨rfl, hw2⟩
  rw [← hw2] at k2 b2
  clear hw2 hf
  have c2_0 := k2.cell' (i := 0) rfl
  have c2_1 := k2.cell' (i := 1) rfl
  have c2_2 := k2.cell' (i := 2) rfl
  go_wp2_with fail
  refine (cloneE_any p n c l _ (h.below b2) (by omega)).mono ?_
  rintro e9 w3 ⟨pw, cw, rfl, how, hb3⟩
  have b3 := bt b2 hb3
  have k3 := k2.kept hb3
  have c3_0 := k3.cell' (i := 0) rfl
  have c3_1 := k3.cell' (i := 1) rfl
  have c3_2 := k3.cell' (i := 2) rfl
  obtain ⟨pq, cq, hvq, hiw⟩ := in_of_ownsE how (by omega)
  cases hvq
  clear how
  clear b2 hb3 k2 c2_0 c2_1 c2_2
  have hPu := fun W hW => punchU p n c l e.lo m W hW (by omega)
  have hRu := fun W hW => rpunchU p n c l e.lo m W hW (by omega)
  generalize punA l e.lo m = PA at *
  generalize punB l e.lo m = PB at *
  generalize punE l e.lo m = PE at *
  go_wp2_with fail
  refine (hPu _ (h.below b3)).mono ?_
  rintro e9 w4 ⟨⟨pa1, na1, ca1, pa2, na2, ca2, rfl, ja1, ja2⟩, hb4⟩
  have b4 := bt b3 hb4
  have k4 := k3.kept hb4
  have c4_0 := k4.cell' (i := 0) rfl
  have c4_1 := k4.cell' (i := 1) rfl
  have c4_2 := k4.cell' (i := 2) rfl
  replace hiw := hiw.below hb4
  clear b3 hb4 k3 c3_0 c3_1 c3_2
  go_wp2_with fail
  refine (hRu _ (h.below b4)).mono ?_
  rintro e9 w5 ⟨⟨pb1, nb1, cb1, pb2, nb2, cb2, rfl, jb1, jb2⟩, hb5⟩
  have b5 := bt b4 hb5
  have k5 := k4.kept hb5
  have c5_0 := k5.cell' (i := 0) rfl
  have c5_1 := k5.cell' (i := 1) rfl
  have c5_2 := k5.cell' (i := 2) rfl
  replace hiw := hiw.below hb5
  replace ja1 := ja1.below hb5
  replace ja2 := ja2.below hb5
  obtain rfl : na1 = nb1 := ja1.len.symm.trans jb1.len
  obtain rfl : na2 = nb2 := ja2.len.symm.trans jb2.len
  clear b4 hb5 k4 c4_0 c4_1 c4_2
  go_wp2_with fail
  refine (equalE_yes _ _ _ _ _ _ _ ja1 jb1).mono ?_
  rintro e9 w6 ⟨rfl, hb6⟩
  have b6 := bt b5 hb6
  have k6 := k5.kept hb6
  have c6_0 := k6.cell' (i := 0) rfl
  have c6_1 := k6.cell' (i := 1) rfl
  have c6_2 := k6.cell' (i := 2) rfl
  replace hiw := hiw.below hb6
  replace ja2 := ja2.below hb6
  replace jb2 := jb2.below hb6
  clear ja1 jb1
  clear b5 hb6 k5 c5_0 c5_1 c5_2
  go_wp2_with fail
  refine (equalE_yes _ _ _ _ _ _ _ ja2 jb2).mono ?_
  rintro e9 w7 ⟨rfl, hb7⟩
  have b7 := bt b6 hb7
  have k7 := k6.kept hb7
  have c7_0 := k7.cell' (i := 0) rfl
  have c7_1 := k7.cell' (i := 1) rfl
  have c7_2 := k7.cell' (i := 2) rfl
  replace hiw := hiw.below hb7
  clear ja2 jb2 hPu hRu
  clear b6 hb7 k6 c6_0 c6_1 c6_2
  have hPt := fun W hW => putU p n c l e W hW (by omega)
  have hRt := fun W hW => rputU p n c l e W hW (by omega)
  generalize putA l e = QA at *
  generalize putB l e = QB at *
  generalize putE l e = QE at *
  go_wp2_with fail
  refine (hPt _ (h.below b7)).mono ?_
  rintro e9 w8 ⟨⟨pa1, na1, ca1, pa2, na2, ca2, rfl, ja1, ja2⟩, hb8⟩
  have b8 := bt b7 hb8
  have k8 := k7.kept hb8
  have c8_0 := k8.cell' (i := 0) rfl
  have c8_1 := k8.cell' (i := 1) rfl
  have c8_2 := k8.cell' (i := 2) rfl
  replace hiw := hiw.below hb8
  clear b7 hb8 k7 c7_0 c7_1 c7_2
  go_wp2_with fail
  refine (hRt _ (h.below b8)).mono ?_
  rintro e9 w9 ⟨⟨pb1, nb1, cb1, pb2, nb2, cb2, rfl, jb1, jb2⟩, hb9⟩
  have b9 := bt b8 hb9
  have k9 := k8.kept hb9
  have c9_0 := k9.cell' (i := 0) rfl
  have c9_1 := k9.cell' (i := 1) rfl
  have c9_2 := k9.cell' (i := 2) rfl
  replace hiw := hiw.below hb9
  replace ja1 := ja1.below hb9
  replace ja2 := ja2.below hb9
  obtain rfl : na1 = nb1 := ja1.len.symm.trans jb1.len
  obtain rfl : na2 = nb2 := ja2.len.symm.trans jb2.len
  clear b8 hb9 k8 c8_0 c8_1 c8_2
  go_wp2_with fail
  refine (equalE_yes _ _ _ _ _ _ _ ja1 jb1).mono ?_
  rintro e9 w10 ⟨rfl, hb10⟩
  have b10 := bt b9 hb10
  have k10 := k9.kept hb10
  have c10_0 := k10.cell' (i := 0) rfl
  have c10_1 := k10.cell' (i := 1) rfl
  have c10_2 := k10.cell' (i := 2) rfl
  replace hiw := hiw.below hb10
  replace ja2 := ja2.below hb10
  replace jb2 := jb2.below hb10
  clear ja1 jb1
  clear b9 hb10 k9 c9_0 c9_1 c9_2
  go_wp2_with fail
  refine (equalE_yes _ _ _ _ _ _ _ ja2 jb2).mono ?_
  rintro e9 w11 ⟨rfl, hb11⟩
  have b11 := bt b10 hb11
  have k11 := k10.kept hb11
  have c11_0 := k11.cell' (i := 0) rfl
  have c11_1 := k11.cell' (i := 1) rfl
  have c11_2 := k11.cell' (i := 2) rfl
  replace hiw := hiw.below hb11
  clear ja2 jb2 hPt hRt
  clear b10 hb11 k10 c10_0 c10_1 c10_2
  go_upto_region 14 with fail
  refine wp_region_noPanic ?_
  refine wp_region_held_drew (S := fun X => Blk X w.heap.size 31 [.int .i64 e.lo, .int .i64 e.ln, .int .i64 e.ph]) (by kernel_rfl) (k11.drew) (fun hHeld => ?_)
  refine wpAnyH_take (i := 0) (v := ?_) rfl (by kernel_rfl) (by kernel_rfl) (by kernel_rfl) (fun _ _ _ h => h) (Or.inl ⟨by rfl, ?_⟩) hHeld ?_
  rotate_left
  · intro w' hSw; try dsimp only at hSw
    have c0 := hSw.cell' (i := 0) rfl
    have c1 := hSw.cell' (i := 1) rfl
    have c2 := hSw.cell' (i := 2) rfl
    go_simp; try (with_reducible rfl)
  try simp only [Act.put, List.getElem_toArray, List.getElem_cons_succ, List.getElem_cons_zero, List.setIfInBounds_toArray, List.set_cons_zero, List.set_cons_succ]
  refine wpAnyH_take (i := 2) (v := ?_) rfl (by kernel_rfl) (by kernel_rfl) (by kernel_rfl) (fun _ _ _ h => h) (Or.inl ⟨by rfl, ?_⟩) hHeld ?_
  rotate_left
  · intro w' hSw; try dsimp only at hSw
    have c0 := hSw.cell' (i := 0) rfl
    have c1 := hSw.cell' (i := 1) rfl
    have c2 := hSw.cell' (i := 2) rfl
    go_simp; try (with_reducible rfl)
  try simp only [Act.put, List.getElem_toArray, List.getElem_cons_succ, List.getElem_cons_zero, List.setIfInBounds_toArray, List.set_cons_zero, List.set_cons_succ]
  refine wpAnyH_ready (rs := [1, 3]) (by kernel_rfl) (by simp) ?_
  refine AllReadyH.cons rfl (fun K hK => ?_) ?_
  · go_simp
    refine (cloneE_any p n c l _ (h.below (bt b11 (Below.refl _ _).drew)) (by omega)).mono ?_
    rintro e9 wx ⟨px, cx, rfl, hox, hbx⟩
    refine hK.out _ _ (k11.kept (bt (Below.refl _ _).drew hbx)) (fun hHeld => ?_)
    clear hK K
    try simp only [Act.put, List.getElem_toArray, List.getElem_cons_succ, List.getElem_cons_zero, List.setIfInBounds_toArray, List.set_cons_zero, List.set_cons_succ]
    refine wpAnyH_ready (rs := [3]) (by kernel_rfl) (by simp) ?_
    refine AllReadyH.cons rfl (fun K hK => ?_) AllReadyH.nil
    go_simp
    refine hK.out _ _ (k11.kept (bt (Below.refl _ _).drew (bt hbx (below_alloc _ (.cells #[.int .i64 e.lo, .int .i64 e.ln, .int .i64 e.ph] 31))))) (fun hHeld => ?_)
    clear hK K
    try simp only [Act.put, List.getElem_toArray, List.getElem_cons_succ, List.getElem_cons_zero, List.setIfInBounds_toArray, List.set_cons_zero, List.set_cons_succ]
    have hz : Below w11.heap.size w11 (wx.alloc (.cells #[.int .i64 e.lo, .int .i64 e.ln, .int .i64 e.ph] 31)) := bt (Below.refl _ w11).drew (bt hbx (below_alloc _ _))
    have hoz := owns_below hox (below_alloc wx (.cells #[.int .i64 e.lo, .int .i64 e.ln, .int .i64 e.ph] 31))
    replace hoz := owns_base hoz (show w11.heap.size ≤ w11.drew.heap.size from Nat.le_refl _)
    have ksz := Blk.new' wx 31 #[.int .i64 e.lo, .int .i64 e.ln, .int .i64 e.ph]
    clear hox hbx
    generalize hwz : wx.alloc (.cells #[.int .i64 e.lo, .int .i64 e.ln, .int .i64 e.ph] 31) = wz at *
    clear hwz
    have hsz0 := hz.size
    refine wpAnyH_ready (rs := [4]) (by kernel_rfl) (by simp) ?_
    refine AllReadyH.cons rfl (fun K hK => ?_) AllReadyH.nil
    rw [if_pos (by rfl)]
    refine wp_append_own _ (.tmp 86) (.tmp 88) 22 rfl w11.heap.size 31 i0 (.agg #[.int .i64 0, .int .i64 0, .int .i64 0]) 3 24 Try.underlying22 hi hz0 hz1 hz2 rfl (by decide) _ n _ rfl hoz ⟨_, 0, none⟩ 1 1 [.int .i64 e.lo, .int .i64 e.ln, .int .i64 e.ph] rfl rfl (fun j u hj => by rw [addr_add, Nat.zero_add]; exact ksz.cell' hj) (by simp [Value.oneCell']) (by unfold maxLen; omega) (by omega) hsz0 ?_
    intro v5 wy hown5 hgrow5 _
    have hy : Below w11.heap.size w11 wy := hz.grown hgrow5 hsz0 (fun j hj => (hoz.lt j hj).1)
    rw [flatE_snoc] at hown5
    obtain ⟨p5, c5, rfl⟩ := owns_slice hown5
    obtain ⟨p6, c6, hv6, hi6⟩ := in_of_ownsE hown5 (by omega)
    cases hv6
    refine hK.out _ _ (k11.kept hy) (fun hHeld => ?_)
    clear hK K
    try simp only [Act.put, List.getElem_toArray, List.getElem_cons_succ, List.getElem_cons_zero, List.setIfInBounds_toArray, List.set_cons_zero, List.set_cons_succ]
    refine wpAnyH_ready (rs := [5]) (by kernel_rfl) (by simp) ?_
    refine AllReadyH.cons rfl (fun K hK => ?_) AllReadyH.nil
    go_simp
    refine (normU _ _ _ _ _ hi6 (by omega)).mono ?_
    rintro e9 w12 ⟨⟨p1a, n1a, c1a, rfl, i1a⟩, hbn⟩
    have hyn := bt hy hbn
    refine hK.out _ _ (k11.kept hyn) (fun hHeld => ?_)
    clear hK K
    try simp only [Act.put, List.getElem_toArray, List.getElem_cons_succ, List.getElem_cons_zero, List.setIfInBounds_toArray, List.set_cons_zero, List.set_cons_succ]
    refine wpAnyH_take (i := 6) (v := ?_) rfl (by kernel_rfl) (by kernel_rfl) (by kernel_rfl) (fun _ _ _ h => h) (Or.inl ⟨by rfl, ?_⟩) hHeld ?_
    rotate_left
    · intro w' hSw; try dsimp only at hSw
      go_simp; try (with_reducible rfl)
    try simp only [Act.put, List.getElem_toArray, List.getElem_cons_succ, List.getElem_cons_zero, List.setIfInBounds_toArray, List.set_cons_zero, List.set_cons_succ]
    refine wpAnyH_take (i := 7) (v := ?_) rfl (by kernel_rfl) (by kernel_rfl) (by kernel_rfl) (fun _ _ _ h => h) (Or.inl ⟨by rfl, ?_⟩) hHeld ?_
    rotate_left
    · intro w' hSw; try dsimp only at hSw
      go_simp; try (with_reducible rfl)
    try simp only [Act.put, List.getElem_toArray, List.getElem_cons_succ, List.getElem_cons_zero, List.setIfInBounds_toArray, List.set_cons_zero, List.set_cons_succ]
    refine wpAnyH_take (i := 8) (v := ?_) rfl (by kernel_rfl) (by kernel_rfl) (by kernel_rfl) (fun _ _ _ h => h) (Or.inl ⟨by rfl, ?_⟩) hHeld ?_
    rotate_left
    · intro w' hSw; try dsimp only at hSw
      go_simp; try (with_reducible rfl)
    try simp only [Act.put, List.getElem_toArray, List.getElem_cons_succ, List.getElem_cons_zero, List.setIfInBounds_toArray, List.set_cons_zero, List.set_cons_succ]
    refine wpAnyH_take (i := 9) (v := ?_) rfl (by kernel_rfl) (by kernel_rfl) (by kernel_rfl) (fun _ _ _ h => h) (Or.inl ⟨by rfl, ?_⟩) hHeld ?_
    rotate_left
    · intro w' hSw; try dsimp only at hSw
      go_simp; try (with_reducible rfl)
    try simp only [Act.put, List.getElem_toArray, List.getElem_cons_succ, List.getElem_cons_zero, List.setIfInBounds_toArray, List.set_cons_zero, List.set_cons_succ]
    refine wpAnyH_take (i := 10) (v := ?_) rfl (by kernel_rfl) (by kernel_rfl) (by kernel_rfl) (fun _ _ _ h => h) (Or.inl ⟨by rfl, ?_⟩) hHeld ?_
    rotate_left
    · intro w' hSw; try dsimp only at hSw
      go_simp; try (with_reducible rfl)
    try simp only [Act.put, List.getElem_toArray, List.getElem_cons_succ, List.getElem_cons_zero, List.setIfInBounds_toArray, List.set_cons_zero, List.set_cons_succ]
    refine wpAnyH_done (by kernel_rfl) ?_ _
    refine NoPanic.normal ?_
    have b12 := bt b11 hyn
    have k12 := k11.kept hyn
    have c12_0 := k12.cell' (i := 0) rfl
    have c12_1 := k12.cell' (i := 1) rfl
    have c12_2 := k12.cell' (i := 2) rfl
    replace hiw := hiw.below hyn
    clear hHeld hyn hbn hy hi6 hown5 hgrow5 hoz ksz hz b11 k11 c11_0 c11_1 c11_2
    go_upto_region 15 with fail
    refine wp_region_noPanic ?_
    refine wp_region_held_drew (S := fun X => Blk X w.heap.size 31 [.int .i64 e.lo, .int .i64 e.ln, .int .i64 e.ph]) (by kernel_rfl) (k12.drew) (fun hHeld => ?_)
    refine wpAnyH_take (i := 0) (v := ?_) rfl (by kernel_rfl) (by kernel_rfl) (by kernel_rfl) (fun _ _ _ h => h) (Or.inl ⟨by rfl, ?_⟩) hHeld ?_
    rotate_left
    · intro w' hSw; try dsimp only at hSw
      have c0 := hSw.cell' (i := 0) rfl
      have c1 := hSw.cell' (i := 1) rfl
      have c2 := hSw.cell' (i := 2) rfl
      go_simp; try (with_reducible rfl)
    try simp only [Act.put, List.getElem_toArray, List.getElem_cons_succ, List.getElem_cons_zero, List.setIfInBounds_toArray, List.set_cons_zero, List.set_cons_succ]
    refine wpAnyH_take (i := 2) (v := ?_) rfl (by kernel_rfl) (by kernel_rfl) (by kernel_rfl) (fun _ _ _ h => h) (Or.inl ⟨by rfl, ?_⟩) hHeld ?_
    rotate_left
    · intro w' hSw; try dsimp only at hSw
      have c0 := hSw.cell' (i := 0) rfl
      have c1 := hSw.cell' (i := 1) rfl
      have c2 := hSw.cell' (i := 2) rfl
      go_simp; try (with_reducible rfl)
    try simp only [Act.put, List.getElem_toArray, List.getElem_cons_succ, List.getElem_cons_zero, List.setIfInBounds_toArray, List.set_cons_zero, List.set_cons_succ]
    refine wpAnyH_ready (rs := [1, 3]) (by kernel_rfl) (by simp) ?_
    refine AllReadyH.cons rfl (fun K hK => ?_) ?_
    · go_simp
      refine (cloneE_any p n c l _ (h.below (bt b12 (Below.refl _ _).drew)) (by omega)).mono ?_
      rintro e9 wx ⟨px, cx, rfl, hox, hbx⟩
      refine hK.out _ _ (k12.kept (bt (Below.refl _ _).drew hbx)) (fun hHeld => ?_)
      clear hK K
      try simp only [Act.put, List.getElem_toArray, List.getElem_cons_succ, List.getElem_cons_zero, List.setIfInBounds_toArray, List.set_cons_zero, List.set_cons_succ]
      refine wpAnyH_ready (rs := [3]) (by kernel_rfl) (by simp) ?_
      refine AllReadyH.cons rfl (fun K hK => ?_) AllReadyH.nil
      go_simp
      refine hK.out _ _ (k12.kept (bt (Below.refl _ _).drew (bt hbx (below_alloc _ (.cells #[.int .i64 e.lo, .int .i64 e.ln, .int .i64 e.ph] 31))))) (fun hHeld => ?_)
      clear hK K
      try simp only [Act.put, List.getElem_toArray, List.getElem_cons_succ, List.getElem_cons_zero, List.setIfInBounds_toArray, List.set_cons_zero, List.set_cons_succ]
      have hz : Below w12.heap.size w12 (wx.alloc (.cells #[.int .i64 e.lo, .int .i64 e.ln, .int .i64 e.ph] 31)) := bt (Below.refl _ w12).drew (bt hbx (below_alloc _ _))
      have hoz := owns_below hox (below_alloc wx (.cells #[.int .i64 e.lo, .int .i64 e.ln, .int .i64 e.ph] 31))
      replace hoz := owns_base hoz (show w12.heap.size ≤ w12.drew.heap.size from Nat.le_refl _)
      have ksz := Blk.new' wx 31 #[.int .i64 e.lo, .int .i64 e.ln, .int .i64 e.ph]
      clear hox hbx
      generalize hwz : wx.alloc (.cells #[.int .i64 e.lo, .int .i64 e.ln, .int .i64 e.ph] 31) = wz at *
      clear hwz
      have hsz0 := hz.size
      refine wpAnyH_ready (rs := [4]) (by kernel_rfl) (by simp) ?_
      refine AllReadyH.cons rfl (fun K hK => ?_) AllReadyH.nil
      rw [if_pos (by rfl)]
      refine wp_append_own _ (.tmp 95) (.tmp 97) 22 rfl w12.heap.size 31 i0 (.agg #[.int .i64 0, .int .i64 0, .int .i64 0]) 3 24 Try.underlying22 hi hz0 hz1 hz2 rfl (by decide) _ n _ rfl hoz ⟨_, 0, none⟩ 1 1 [.int .i64 e.lo, .int .i64 e.ln, .int .i64 e.ph] rfl rfl (fun j u hj => by rw [addr_add, Nat.zero_add]; exact ksz.cell' hj) (by simp [Value.oneCell']) (by unfold maxLen; omega) (by omega) hsz0 ?_
      intro v5 wy hown5 hgrow5 _
      have hy : Below w12.heap.size w12 wy := hz.grown hgrow5 hsz0 (fun j hj => (hoz.lt j hj).1)
      rw [flatE_snoc] at hown5
      obtain ⟨p5, c5, rfl⟩ := owns_slice hown5
      obtain ⟨p6, c6, hv6, hi6⟩ := in_of_ownsE hown5 (by omega)
      cases hv6
      refine hK.out _ _ (k12.kept hy) (fun hHeld => ?_)
      clear hK K
      try simp only [Act.put, List.getElem_toArray, List.getElem_cons_succ, List.getElem_cons_zero, List.setIfInBounds_toArray, List.set_cons_zero, List.set_cons_succ]
      refine wpAnyH_ready (rs := [5]) (by kernel_rfl) (by simp) ?_
      refine AllReadyH.cons rfl (fun K hK => ?_) AllReadyH.nil
      go_simp
      refine (rnormU _ _ _ _ _ hi6 (by omega)).mono ?_
      rintro e9 w13 ⟨⟨p1b, n1b, c1b, rfl, i1b⟩, hbn⟩
      have hyn := bt hy hbn
      refine hK.out _ _ (k12.kept hyn) (fun hHeld => ?_)
      clear hK K
      try simp only [Act.put, List.getElem_toArray, List.getElem_cons_succ, List.getElem_cons_zero, List.setIfInBounds_toArray, List.set_cons_zero, List.set_cons_succ]
      refine wpAnyH_take (i := 6) (v := ?_) rfl (by kernel_rfl) (by kernel_rfl) (by kernel_rfl) (fun _ _ _ h => h) (Or.inl ⟨by rfl, ?_⟩) hHeld ?_
      rotate_left
      · intro w' hSw; try dsimp only at hSw
        go_simp; try (with_reducible rfl)
      try simp only [Act.put, List.getElem_toArray, List.getElem_cons_succ, List.getElem_cons_zero, List.setIfInBounds_toArray, List.set_cons_zero, List.set_cons_succ]
      refine wpAnyH_take (i := 7) (v := ?_) rfl (by kernel_rfl) (by kernel_rfl) (by kernel_rfl) (fun _ _ _ h => h) (Or.inl ⟨by rfl, ?_⟩) hHeld ?_
      rotate_left
      · intro w' hSw; try dsimp only at hSw
        go_simp; try (with_reducible rfl)
      try simp only [Act.put, List.getElem_toArray, List.getElem_cons_succ, List.getElem_cons_zero, List.setIfInBounds_toArray, List.set_cons_zero, List.set_cons_succ]
      refine wpAnyH_take (i := 8) (v := ?_) rfl (by kernel_rfl) (by kernel_rfl) (by kernel_rfl) (fun _ _ _ h => h) (Or.inl ⟨by rfl, ?_⟩) hHeld ?_
      rotate_left
      · intro w' hSw; try dsimp only at hSw
        go_simp; try (with_reducible rfl)
      try simp only [Act.put, List.getElem_toArray, List.getElem_cons_succ, List.getElem_cons_zero, List.setIfInBounds_toArray, List.set_cons_zero, List.set_cons_succ]
      refine wpAnyH_take (i := 9) (v := ?_) rfl (by kernel_rfl) (by kernel_rfl) (by kernel_rfl) (fun _ _ _ h => h) (Or.inl ⟨by rfl, ?_⟩) hHeld ?_
      rotate_left
      · intro w' hSw; try dsimp only at hSw
        go_simp; try (with_reducible rfl)
      try simp only [Act.put, List.getElem_toArray, List.getElem_cons_succ, List.getElem_cons_zero, List.setIfInBounds_toArray, List.set_cons_zero, List.set_cons_succ]
      refine wpAnyH_take (i := 10) (v := ?_) rfl (by kernel_rfl) (by kernel_rfl) (by kernel_rfl) (fun _ _ _ h => h) (Or.inl ⟨by rfl, ?_⟩) hHeld ?_
      rotate_left
      · intro w' hSw; try dsimp only at hSw
        go_simp; try (with_reducible rfl)
      try simp only [Act.put, List.getElem_toArray, List.getElem_cons_succ, List.getElem_cons_zero, List.setIfInBounds_toArray, List.set_cons_zero, List.set_cons_succ]
      refine wpAnyH_done (by kernel_rfl) ?_ _
      refine NoPanic.normal ?_
      have b13 := bt b12 hyn
      have k13 := k12.kept hyn
      have c13_0 := k13.cell' (i := 0) rfl
      have c13_1 := k13.cell' (i := 1) rfl
      have c13_2 := k13.cell' (i := 2) rfl
      replace hiw := hiw.below hyn
      replace i1a := i1a.below hyn
      clear hHeld hyn hbn hy hi6 hown5 hgrow5 hoz ksz hz b12 k12 c12_0 c12_1 c12_2
      obtain rfl : n1a = n1b := i1a.len.symm.trans i1b.len
      generalize norE (l ++ [e]) = NE at *
      go_wp2_with fail
      refine (equalE_yes _ _ _ _ _ _ _ i1a i1b).mono ?_
      rintro e9 w14 ⟨rfl, hb14⟩
      have b14 := bt b13 hb14
      have k14 := k13.kept hb14
      have c14_0 := k14.cell' (i := 0) rfl
      have c14_1 := k14.cell' (i := 1) rfl
      have c14_2 := k14.cell' (i := 2) rfl
      replace hiw := hiw.below hb14
      clear i1a i1b
      clear b13 hb14 k13 c13_0 c13_1 c13_2
      go_wp2_with fail
      refine (equalE_yes _ _ _ _ _ _ _ (h.below b14) hiw).mono ?_
      rintro e9 w90 ⟨rfl, hb90⟩
      have b90 := bt b14 hb90
      go_wp2
      go_ret
      exact ⟨rfl, b90⟩
    refine AllReadyH.cons rfl (fun K hK => ?_) AllReadyH.nil
    go_simp
    refine hK.out _ _ (k12.drew.alloc _) (fun hHeld => ?_)
    clear hK K
    try simp only [Act.put, List.getElem_toArray, List.getElem_cons_succ, List.getElem_cons_zero, List.setIfInBounds_toArray, List.set_cons_zero, List.set_cons_succ]
    refine wpAnyH_ready (rs := [1]) (by kernel_rfl) (by simp) ?_
    refine AllReadyH.cons rfl (fun K hK => ?_) AllReadyH.nil
    go_simp
    refine (cloneE_any p n c l _ (h.below (bt b12 (bt (Below.refl _ _).drew (below_alloc _ (.cells #[.int .i64 e.lo, .int .i64 e.ln, .int .i64 e.ph] 31))))) (by omega)).mono ?_
    rintro e9 wx ⟨px, cx, rfl, hox, hbx⟩
    refine hK.out _ _ (k12.kept (bt (bt (Below.refl _ _).drew (below_alloc _ (.cells #[.int .i64 e.lo, .int .i64 e.ln, .int .i64 e.ph] 31))) hbx)) (fun hHeld => ?_)
    clear hK K
    try simp only [Act.put, List.getElem_toArray, List.getElem_cons_succ, List.getElem_cons_zero, List.setIfInBounds_toArray, List.set_cons_zero, List.set_cons_succ]
    have hz : Below w12.heap.size w12 wx := bt (bt (Below.refl _ w12).drew (below_alloc _ (.cells #[.int .i64 e.lo, .int .i64 e.ln, .int .i64 e.ph] 31))) hbx
    have hoz := owns_base hox (show w12.heap.size ≤ (w12.drew.alloc (.cells #[.int .i64 e.lo, .int .i64 e.ln, .int .i64 e.ph] 31)).heap.size by rw [World.size_alloc]; exact Nat.le_succ _)
    have ksz := (Blk.new' w12.drew 31 #[.int .i64 e.lo, .int .i64 e.ln, .int .i64 e.ph]).kept hbx
    clear hox hbx
    have hsz0 := hz.size
    refine wpAnyH_ready (rs := [4]) (by kernel_rfl) (by simp) ?_
    refine AllReadyH.cons rfl (fun K hK => ?_) AllReadyH.nil
    rw [if_pos (by rfl)]
    refine wp_append_own _ (.tmp 95) (.tmp 97) 22 rfl w12.heap.size 31 i0 (.agg #[.int .i64 0, .int .i64 0, .int .i64 0]) 3 24 Try.underlying22 hi hz0 hz1 hz2 rfl (by decide) _ n _ rfl hoz ⟨_, 0, none⟩ 1 1 [.int .i64 e.lo, .int .i64 e.ln, .int .i64 e.ph] rfl rfl (fun j u hj => by rw [addr_add, Nat.zero_add]; exact ksz.cell' hj) (by simp [Value.oneCell']) (by unfold maxLen; omega) (by omega) hsz0 ?_
    intro v5 wy hown5 hgrow5 _
    have hy : Below w12.heap.size w12 wy := hz.grown hgrow5 hsz0 (fun j hj => (hoz.lt j hj).1)
    rw [flatE_snoc] at hown5
    obtain ⟨p5, c5, rfl⟩ := owns_slice hown5
    obtain ⟨p6, c6, hv6, hi6⟩ := in_of_ownsE hown5 (by omega)
    cases hv6
    refine hK.out _ _ (k12.kept hy) (fun hHeld => ?_)
    clear hK K
    try simp only [Act.put, List.getElem_toArray, List.getElem_cons_succ, List.getElem_cons_zero, List.setIfInBounds_toArray, List.set_cons_zero, List.set_cons_succ]
    refine wpAnyH_ready (rs := [5]) (by kernel_rfl) (by simp) ?_
    refine AllReadyH.cons rfl (fun K hK => ?_) AllReadyH.nil
    go_simp
    refine (rnormU _ _ _ _ _ hi6 (by omega)).mono ?_
    rintro e9 w13 ⟨⟨p1b, n1b, c1b, rfl, i1b⟩, hbn⟩
    have hyn := bt hy hbn
    refine hK.out _ _ (k12.kept hyn) (fun hHeld => ?_)
    clear hK K
    try simp only [Act.put, List.getElem_toArray, List.getElem_cons_succ, List.getElem_cons_zero, List.setIfInBounds_toArray, List.set_cons_zero, List.set_cons_succ]
    refine wpAnyH_take (i := 6) (v := ?_) rfl (by kernel_rfl) (by kernel_rfl) (by kernel_rfl) (fun _ _ _ h => h) (Or.inl ⟨by rfl, ?_⟩) hHeld ?_
    rotate_left
    · intro w' hSw; try dsimp only at hSw
      go_simp; try (with_reducible rfl)
    try simp only [Act.put, List.getElem_toArray, List.getElem_cons_succ, List.getElem_cons_zero, List.setIfInBounds_toArray, List.set_cons_zero, List.set_cons_succ]
    refine wpAnyH_take (i := 7) (v := ?_) rfl (by kernel_rfl) (by kernel_rfl) (by kernel_rfl) (fun _ _ _ h => h) (Or.inl ⟨by rfl, ?_⟩) hHeld ?_
    rotate_left
    · intro w' hSw; try dsimp only at hSw
      go_simp; try (with_reducible rfl)
    try simp only [Act.put, List.getElem_toArray, List.getElem_cons_succ, List.getElem_cons_zero, List.setIfInBounds_toArray, List.set_cons_zero, List.set_cons_succ]
    refine wpAnyH_take (i := 8) (v := ?_) rfl (by kernel_rfl) (by kernel_rfl) (by kernel_rfl) (fun _ _ _ h => h) (Or.inl ⟨by rfl, ?_⟩) hHeld ?_
    rotate_left
    · intro w' hSw; try dsimp only at hSw
      go_simp; try (with_reducible rfl)
    try simp only [Act.put, List.getElem_toArray, List.getElem_cons_succ, List.getElem_cons_zero, List.setIfInBounds_toArray, List.set_cons_zero, List.set_cons_succ]
    refine wpAnyH_take (i := 9) (v := ?_) rfl (by kernel_rfl) (by kernel_rfl) (by kernel_rfl) (fun _ _ _ h => h) (Or.inl ⟨by rfl, ?_⟩) hHeld ?_
    rotate_left
    · intro w' hSw; try dsimp only at hSw
      go_simp; try (with_reducible rfl)
    try simp only [Act.put, List.getElem_toArray, List.getElem_cons_succ, List.getElem_cons_zero, List.setIfInBounds_toArray, List.set_cons_zero, List.set_cons_succ]
    refine wpAnyH_take (i := 10) (v := ?_) rfl (by kernel_rfl) (by kernel_rfl) (by kernel_rfl) (fun _ _ _ h => h) (Or.inl ⟨by rfl, ?_⟩) hHeld ?_
    rotate_left
    · intro w' hSw; try dsimp only at hSw
      go_simp; try (with_reducible rfl)
    try simp only [Act.put, List.getElem_toArray, List.getElem_cons_succ, List.getElem_cons_zero, List.setIfInBounds_toArray, List.set_cons_zero, List.set_cons_succ]
    refine wpAnyH_done (by kernel_rfl) ?_ _
    refine NoPanic.normal ?_
    have b13 := bt b12 hyn
    have k13 := k12.kept hyn
    have c13_0 := k13.cell' (i := 0) rfl
    have c13_1 := k13.cell' (i := 1) rfl
    have c13_2 := k13.cell' (i := 2) rfl
    replace hiw := hiw.below hyn
    replace i1a := i1a.below hyn
    clear hHeld hyn hbn hy hi6 hown5 hgrow5 hoz ksz hz b12 k12 c12_0 c12_1 c12_2
    obtain rfl : n1a = n1b := i1a.len.symm.trans i1b.len
    generalize norE (l ++ [e]) = NE at *
    go_wp2_with fail
    refine (equalE_yes _ _ _ _ _ _ _ i1a i1b).mono ?_
    rintro e9 w14 ⟨rfl, hb14⟩
    have b14 := bt b13 hb14
    have k14 := k13.kept hb14
    have c14_0 := k14.cell' (i := 0) rfl
    have c14_1 := k14.cell' (i := 1) rfl
    have c14_2 := k14.cell' (i := 2) rfl
    replace hiw := hiw.below hb14
    clear i1a i1b
    clear b13 hb14 k13 c13_0 c13_1 c13_2
    go_wp2_with fail
    refine (equalE_yes _ _ _ _ _ _ _ (h.below b14) hiw).mono ?_
    rintro e9 w90 ⟨rfl, hb90⟩
    have b90 := bt b14 hb90
    go_wp2
    go_ret
    exact ⟨rfl, b90⟩
  refine AllReadyH.cons rfl (fun K hK => ?_) AllReadyH.nil
  go_simp
  refine hK.out _ _ (k11.drew.alloc _) (fun hHeld => ?_)
  clear hK K
  try simp only [Act.put, List.getElem_toArray, List.getElem_cons_succ, List.getElem_cons_zero, List.setIfInBounds_toArray, List.set_cons_zero, List.set_cons_succ]
  refine wpAnyH_ready (rs := [1]) (by kernel_rfl) (by simp) ?_
  refine AllReadyH.cons rfl (fun K hK => ?_) AllReadyH.nil
  go_simp
  refine (cloneE_any p n c l _ (h.below (bt b11 (bt (Below.refl _ _).drew (below_alloc _ (.cells #[.int .i64 e.lo, .int .i64 e.ln, .int .i64 e.ph] 31))))) (by omega)).mono ?_
  rintro e9 wx ⟨px, cx, rfl, hox, hbx⟩
  refine hK.out _ _ (k11.kept (bt (bt (Below.refl _ _).drew (below_alloc _ (.cells #[.int .i64 e.lo, .int .i64 e.ln, .int .i64 e.ph] 31))) hbx)) (fun hHeld => ?_)
  clear hK K
  try simp only [Act.put, List.getElem_toArray, List.getElem_cons_succ, List.getElem_cons_zero, List.setIfInBounds_toArray, List.set_cons_zero, List.set_cons_succ]
  have hz : Below w11.heap.size w11 wx := bt (bt (Below.refl _ w11).drew (below_alloc _ (.cells #[.int .i64 e.lo, .int .i64 e.ln, .int .i64 e.ph] 31))) hbx
  have hoz := owns_base hox (show w11.heap.size ≤ (w11.drew.alloc (.cells #[.int .i64 e.lo, .int .i64 e.ln, .int .i64 e.ph] 31)).heap.size by rw [World.size_alloc]; exact Nat.le_succ _)
  have ksz := (Blk.new' w11.drew 31 #[.int .i64 e.lo, .int .i64 e.ln, .int .i64 e.ph]).kept hbx
  clear hox hbx
  have hsz0 := hz.size
  refine wpAnyH_ready (rs := [4]) (by kernel_rfl) (by simp) ?_
  refine AllReadyH.cons rfl (fun K hK => ?_) AllReadyH.nil
  rw [if_pos (by rfl)]
  refine wp_append_own _ (.tmp 86) (.tmp 88) 22 rfl w11.heap.size 31 i0 (.agg #[.int .i64 0, .int .i64 0, .int .i64 0]) 3 24 Try.underlying22 hi hz0 hz1 hz2 rfl (by decide) _ n _ rfl hoz ⟨_, 0, none⟩ 1 1 [.int .i64 e.lo, .int .i64 e.ln, .int .i64 e.ph] rfl rfl (fun j u hj => by rw [addr_add, Nat.zero_add]; exact ksz.cell' hj) (by simp [Value.oneCell']) (by unfold maxLen; omega) (by omega) hsz0 ?_
  intro v5 wy hown5 hgrow5 _
  have hy : Below w11.heap.size w11 wy := hz.grown hgrow5 hsz0 (fun j hj => (hoz.lt j hj).1)
  rw [flatE_snoc] at hown5
  obtain ⟨p5, c5, rfl⟩ := owns_slice hown5
  obtain ⟨p6, c6, hv6, hi6⟩ := in_of_ownsE hown5 (by omega)
  cases hv6
  refine hK.out _ _ (k11.kept hy) (fun hHeld => ?_)
  clear hK K
  try simp only [Act.put, List.getElem_toArray, List.getElem_cons_succ, List.getElem_cons_zero, List.setIfInBounds_toArray, List.set_cons_zero, List.set_cons_succ]
  refine wpAnyH_ready (rs := [5]) (by kernel_rfl) (by simp) ?_
  refine AllReadyH.cons rfl (fun K hK => ?_) AllReadyH.nil
  go_simp
  refine (normU _ _ _ _ _ hi6 (by omega)).mono ?_
  rintro e9 w12 ⟨⟨p1a, n1a, c1a, rfl, i1a⟩, hbn⟩
  have hyn := bt hy hbn
  refine hK.out _ _ (k11.kept hyn) (fun hHeld => ?_)
  clear hK K
  try simp only [Act.put, List.getElem_toArray, List.getElem_cons_succ, List.getElem_cons_zero, List.setIfInBounds_toArray, List.set_cons_zero, List.set_cons_succ]
  refine wpAnyH_take (i := 6) (v := ?_) rfl (by kernel_rfl) (by kernel_rfl) (by kernel_rfl) (fun _ _ _ h => h) (Or.inl ⟨by rfl, ?_⟩) hHeld ?_
  rotate_left
  · intro w' hSw; try dsimp only at hSw
    go_simp; try (with_reducible rfl)
  try simp only [Act.put, List.getElem_toArray, List.getElem_cons_succ, List.getElem_cons_zero, List.setIfInBounds_toArray, List.set_cons_zero, List.set_cons_succ]
  refine wpAnyH_take (i := 7) (v := ?_) rfl (by kernel_rfl) (by kernel_rfl) (by kernel_rfl) (fun _ _ _ h => h) (Or.inl ⟨by rfl, ?_⟩) hHeld ?_
  rotate_left
  · intro w' hSw; try dsimp only at hSw
    go_simp; try (with_reducible rfl)
  try simp only [Act.put, List.getElem_toArray, List.getElem_cons_succ, List.getElem_cons_zero, List.setIfInBounds_toArray, List.set_cons_zero, List.set_cons_succ]
  refine wpAnyH_take (i := 8) (v := ?_) rfl (by kernel_rfl) (by kernel_rfl) (by kernel_rfl) (fun _ _ _ h => h) (Or.inl ⟨by rfl, ?_⟩) hHeld ?_
  rotate_left
  · intro w' hSw; try dsimp only at hSw
    go_simp; try (with_reducible rfl)
  try simp only [Act.put, List.getElem_toArray, List.getElem_cons_succ, List.getElem_cons_zero, List.setIfInBounds_toArray, List.set_cons_zero, List.set_cons_succ]
  refine wpAnyH_take (i := 9) (v := ?_) rfl (by kernel_rfl) (by kernel_rfl) (by kernel_rfl) (fun _ _ _ h => h) (Or.inl ⟨by rfl, ?_⟩) hHeld ?_
  rotate_left
  · intro w' hSw; try dsimp only at hSw
    go_simp; try (with_reducible rfl)
  try simp only [Act.put, List.getElem_toArray, List.getElem_cons_succ, List.getElem_cons_zero, List.setIfInBounds_toArray, List.set_cons_zero, List.set_cons_succ]
  refine wpAnyH_take (i := 10) (v := ?_) rfl (by kernel_rfl) (by kernel_rfl) (by kernel_rfl) (fun _ _ _ h => h) (Or.inl ⟨by rfl, ?_⟩) hHeld ?_
  rotate_left
  · intro w' hSw; try dsimp only at hSw
    go_simp; try (with_reducible rfl)
  try simp only [Act.put, List.getElem_toArray, List.getElem_cons_succ, List.getElem_cons_zero, List.setIfInBounds_toArray, List.set_cons_zero, List.set_cons_succ]
  refine wpAnyH_done (by kernel_rfl) ?_ _
  refine NoPanic.normal ?_
  have b12 := bt b11 hyn
  have k12 := k11.kept hyn
  have c12_0 := k12.cell' (i := 0) rfl
  have c12_1 := k12.cell' (i := 1) rfl
  have c12_2 := k12.cell' (i := 2) rfl
  replace hiw := hiw.below hyn
  clear hHeld hyn hbn hy hi6 hown5 hgrow5 hoz ksz hz b11 k11 c11_0 c11_1 c11_2
  go_upto_region 15 with fail
  refine wp_region_noPanic ?_
  refine wp_region_held_drew (S := fun X => Blk X w.heap.size 31 [.int .i64 e.lo, .int .i64 e.ln, .int .i64 e.ph]) (by kernel_rfl) (k12.drew) (fun hHeld => ?_)
  refine wpAnyH_take (i := 0) (v := ?_) rfl (by kernel_rfl) (by kernel_rfl) (by kernel_rfl) (fun _ _ _ h => h) (Or.inl ⟨by rfl, ?_⟩) hHeld ?_
  rotate_left
  · intro w' hSw; try dsimp only at hSw
    have c0 := hSw.cell' (i := 0) rfl
    have c1 := hSw.cell' (i := 1) rfl
    have c2 := hSw.cell' (i := 2) rfl
    go_simp; try (with_reducible rfl)
  try simp only [Act.put, List.getElem_toArray, List.getElem_cons_succ, List.getElem_cons_zero, List.setIfInBounds_toArray, List.set_cons_zero, List.set_cons_succ]
  refine wpAnyH_take (i := 2) (v := ?_) rfl (by kernel_rfl) (by kernel_rfl) (by kernel_rfl) (fun _ _ _ h => h) (Or.inl ⟨by rfl, ?_⟩) hHeld ?_
  rotate_left
  · intro w' hSw; try dsimp only at hSw
    have c0 := hSw.cell' (i := 0) rfl
    have c1 := hSw.cell' (i := 1) rfl
    have c2 := hSw.cell' (i := 2) rfl
    go_simp; try (with_reducible rfl)
  try simp only [Act.put, List.getElem_toArray, List.getElem_cons_succ, List.getElem_cons_zero, List.setIfInBounds_toArray, List.set_cons_zero, List.set_cons_succ]
  refine wpAnyH_ready (rs := [1, 3]) (by kernel_rfl) (by simp) ?_
  refine AllReadyH.cons rfl (fun K hK => ?_) ?_
  · go_simp
    refine (cloneE_any p n c l _ (h.below (bt b12 (Below.refl _ _).drew)) (by omega)).mono ?_
    rintro e9 wx ⟨px, cx, rfl, hox, hbx⟩
    refine hK.out _ _ (k12.kept (bt (Below.refl _ _).drew hbx)) (fun hHeld => ?_)
    clear hK K
    try simp only [Act.put, List.getElem_toArray, List.getElem_cons_succ, List.getElem_cons_zero, List.setIfInBounds_toArray, List.set_cons_zero, List.set_cons_succ]
    refine wpAnyH_ready (rs := [3]) (by kernel_rfl) (by simp) ?_
    refine AllReadyH.cons rfl (fun K hK => ?_) AllReadyH.nil
    go_simp
    refine hK.out _ _ (k12.kept (bt (Below.refl _ _).drew (bt hbx (below_alloc _ (.cells #[.int .i64 e.lo, .int .i64 e.ln, .int .i64 e.ph] 31))))) (fun hHeld => ?_)
    clear hK K
    try simp only [Act.put, List.getElem_toArray, List.getElem_cons_succ, List.getElem_cons_zero, List.setIfInBounds_toArray, List.set_cons_zero, List.set_cons_succ]
    have hz : Below w12.heap.size w12 (wx.alloc (.cells #[.int .i64 e.lo, .int .i64 e.ln, .int .i64 e.ph] 31)) := bt (Below.refl _ w12).drew (bt hbx (below_alloc _ _))
    have hoz := owns_below hox (below_alloc wx (.cells #[.int .i64 e.lo, .int .i64 e.ln, .int .i64 e.ph] 31))
    replace hoz := owns_base hoz (show w12.heap.size ≤ w12.drew.heap.size from Nat.le_refl _)
    have ksz := Blk.new' wx 31 #[.int .i64 e.lo, .int .i64 e.ln, .int .i64 e.ph]
    clear hox hbx
    generalize hwz : wx.alloc (.cells #[.int .i64 e.lo, .int .i64 e.ln, .int .i64 e.ph] 31) = wz at *
    clear hwz
    have hsz0 := hz.size
    refine wpAnyH_ready (rs := [4]) (by kernel_rfl) (by simp) ?_
    refine AllReadyH.cons rfl (fun K hK => ?_) AllReadyH.nil
    rw [if_pos (by rfl)]
    refine wp_append_own _ (.tmp 95) (.tmp 97) 22 rfl w12.heap.size 31 i0 (.agg #[.int .i64 0, .int .i64 0, .int .i64 0]) 3 24 Try.underlying22 hi hz0 hz1 hz2 rfl (by decide) _ n _ rfl hoz ⟨_, 0, none⟩ 1 1 [.int .i64 e.lo, .int .i64 e.ln, .int .i64 e.ph] rfl rfl (fun j u hj => by rw [addr_add, Nat.zero_add]; exact ksz.cell' hj) (by simp [Value.oneCell']) (by unfold maxLen; omega) (by omega) hsz0 ?_
    intro v5 wy hown5 hgrow5 _
    have hy : Below w12.heap.size w12 wy := hz.grown hgrow5 hsz0 (fun j hj => (hoz.lt j hj).1)
    rw [flatE_snoc] at hown5
    obtain ⟨p5, c5, rfl⟩ := owns_slice hown5
    obtain ⟨p6, c6, hv6, hi6⟩ := in_of_ownsE hown5 (by omega)
    cases hv6
    refine hK.out _ _ (k12.kept hy) (fun hHeld => ?_)
    clear hK K
    try simp only [Act.put, List.getElem_toArray, List.getElem_cons_succ, List.getElem_cons_zero, List.setIfInBounds_toArray, List.set_cons_zero, List.set_cons_succ]
    refine wpAnyH_ready (rs := [5]) (by kernel_rfl) (by simp) ?_
    refine AllReadyH.cons rfl (fun K hK => ?_) AllReadyH.nil
    go_simp
    refine (rnormU _ _ _ _ _ hi6 (by omega)).mono ?_
    rintro e9 w13 ⟨⟨p1b, n1b, c1b, rfl, i1b⟩, hbn⟩
    have hyn := bt hy hbn
    refine hK.out _ _ (k12.kept hyn) (fun hHeld => ?_)
    clear hK K
    try simp only [Act.put, List.getElem_toArray, List.getElem_cons_succ, List.getElem_cons_zero, List.setIfInBounds_toArray, List.set_cons_zero, List.set_cons_succ]
    refine wpAnyH_take (i := 6) (v := ?_) rfl (by kernel_rfl) (by kernel_rfl) (by kernel_rfl) (fun _ _ _ h => h) (Or.inl ⟨by rfl, ?_⟩) hHeld ?_
    rotate_left
    · intro w' hSw; try dsimp only at hSw
      go_simp; try (with_reducible rfl)
    try simp only [Act.put, List.getElem_toArray, List.getElem_cons_succ, List.getElem_cons_zero, List.setIfInBounds_toArray, List.set_cons_zero, List.set_cons_succ]
    refine wpAnyH_take (i := 7) (v := ?_) rfl (by kernel_rfl) (by kernel_rfl) (by kernel_rfl) (fun _ _ _ h => h) (Or.inl ⟨by rfl, ?_⟩) hHeld ?_
    rotate_left
    · intro w' hSw; try dsimp only at hSw
      go_simp; try (with_reducible rfl)
    try simp only [Act.put, List.getElem_toArray, List.getElem_cons_succ, List.getElem_cons_zero, List.setIfInBounds_toArray, List.set_cons_zero, List.set_cons_succ]
    refine wpAnyH_take (i := 8) (v := ?_) rfl (by kernel_rfl) (by kernel_rfl) (by kernel_rfl) (fun _ _ _ h => h) (Or.inl ⟨by rfl, ?_⟩) hHeld ?_
    rotate_left
    · intro w' hSw; try dsimp only at hSw
      go_simp; try (with_reducible rfl)
    try simp only [Act.put, List.getElem_toArray, List.getElem_cons_succ, List.getElem_cons_zero, List.setIfInBounds_toArray, List.set_cons_zero, List.set_cons_succ]
    refine wpAnyH_take (i := 9) (v := ?_) rfl (by kernel_rfl) (by kernel_rfl) (by kernel_rfl) (fun _ _ _ h => h) (Or.inl ⟨by rfl, ?_⟩) hHeld ?_
    rotate_left
    · intro w' hSw; try dsimp only at hSw
      go_simp; try (with_reducible rfl)
    try simp only [Act.put, List.getElem_toArray, List.getElem_cons_succ, List.getElem_cons_zero, List.setIfInBounds_toArray, List.set_cons_zero, List.set_cons_succ]
    refine wpAnyH_take (i := 10) (v := ?_) rfl (by kernel_rfl) (by kernel_rfl) (by kernel_rfl) (fun _ _ _ h => h) (Or.inl ⟨by rfl, ?_⟩) hHeld ?_
    rotate_left
    · intro w' hSw; try dsimp only at hSw
      go_simp; try (with_reducible rfl)
    try simp only [Act.put, List.getElem_toArray, List.getElem_cons_succ, List.getElem_cons_zero, List.setIfInBounds_toArray, List.set_cons_zero, List.set_cons_succ]
    refine wpAnyH_done (by kernel_rfl) ?_ _
    refine NoPanic.normal ?_
    have b13 := bt b12 hyn
    have k13 := k12.kept hyn
    have c13_0 := k13.cell' (i := 0) rfl
    have c13_1 := k13.cell' (i := 1) rfl
    have c13_2 := k13.cell' (i := 2) rfl
    replace hiw := hiw.below hyn
    replace i1a := i1a.below hyn
    clear hHeld hyn hbn hy hi6 hown5 hgrow5 hoz ksz hz b12 k12 c12_0 c12_1 c12_2
    obtain rfl : n1a = n1b := i1a.len.symm.trans i1b.len
    generalize norE (l ++ [e]) = NE at *
    go_wp2_with fail
    refine (equalE_yes _ _ _ _ _ _ _ i1a i1b).mono ?_
    rintro e9 w14 ⟨rfl, hb14⟩
    have b14 := bt b13 hb14
    have k14 := k13.kept hb14
    have c14_0 := k14.cell' (i := 0) rfl
    have c14_1 := k14.cell' (i := 1) rfl
    have c14_2 := k14.cell' (i := 2) rfl
    replace hiw := hiw.below hb14
    clear i1a i1b
    clear b13 hb14 k13 c13_0 c13_1 c13_2
    go_wp2_with fail
    refine (equalE_yes _ _ _ _ _ _ _ (h.below b14) hiw).mono ?_
    rintro e9 w90 ⟨rfl, hb90⟩
    have b90 := bt b14 hb90
    go_wp2
    go_ret
    exact ⟨rfl, b90⟩
  refine AllReadyH.cons rfl (fun K hK => ?_) AllReadyH.nil
  go_simp
  refine hK.out _ _ (k12.drew.alloc _) (fun hHeld => ?_)
  clear hK K
  try simp only [Act.put, List.getElem_toArray, List.getElem_cons_succ, List.getElem_cons_zero, List.setIfInBounds_toArray, List.set_cons_zero, List.set_cons_succ]
  refine wpAnyH_ready (rs := [1]) (by kernel_rfl) (by simp) ?_
  refine AllReadyH.cons rfl (fun K hK => ?_) AllReadyH.nil
  go_simp
  refine (cloneE_any p n c l _ (h.below (bt b12 (bt (Below.refl _ _).drew (below_alloc _ (.cells #[.int .i64 e.lo, .int .i64 e.ln, .int .i64 e.ph] 31))))) (by omega)).mono ?_
  rintro e9 wx ⟨px, cx, rfl, hox, hbx⟩
  refine hK.out _ _ (k12.kept (bt (bt (Below.refl _ _).drew (below_alloc _ (.cells #[.int .i64 e.lo, .int .i64 e.ln, .int .i64 e.ph] 31))) hbx)) (fun hHeld => ?_)
  clear hK K
  try simp only [Act.put, List.getElem_toArray, List.getElem_cons_succ, List.getElem_cons_zero, List.setIfInBounds_toArray, List.set_cons_zero, List.set_cons_succ]
  have hz : Below w12.heap.size w12 wx := bt (bt (Below.refl _ w12).drew (below_alloc _ (.cells #[.int .i64 e.lo, .int .i64 e.ln, .int .i64 e.ph] 31))) hbx
  have hoz := owns_base hox (show w12.heap.size ≤ (w12.drew.alloc (.cells #[.int .i64 e.lo, .int .i64 e.ln, .int .i64 e.ph] 31)).heap.size by rw [World.size_alloc]; exact Nat.le_succ _)
  have ksz := (Blk.new' w12.drew 31 #[.int .i64 e.lo, .int .i64 e.ln, .int .i64 e.ph]).kept hbx
  clear hox hbx
  have hsz0 := hz.size
  refine wpAnyH_ready (rs := [4]) (by kernel_rfl) (by simp) ?_
  refine AllReadyH.cons rfl (fun K hK => ?_) AllReadyH.nil
  rw [if_pos (by rfl)]
  refine wp_append_own _ (.tmp 95) (.tmp 97) 22 rfl w12.heap.size 31 i0 (.agg #[.int .i64 0, .int .i64 0, .int .i64 0]) 3 24 Try.underlying22 hi hz0 hz1 hz2 rfl (by decide) _ n _ rfl hoz ⟨_, 0, none⟩ 1 1 [.int .i64 e.lo, .int .i64 e.ln, .int .i64 e.ph] rfl rfl (fun j u hj => by rw [addr_add, Nat.zero_add]; exact ksz.cell' hj) (by simp [Value.oneCell']) (by unfold maxLen; omega) (by omega) hsz0 ?_
  intro v5 wy hown5 hgrow5 _
  have hy : Below w12.heap.size w12 wy := hz.grown hgrow5 hsz0 (fun j hj => (hoz.lt j hj).1)
  rw [flatE_snoc] at hown5
  obtain ⟨p5, c5, rfl⟩ := owns_slice hown5
  obtain ⟨p6, c6, hv6, hi6⟩ := in_of_ownsE hown5 (by omega)
  cases hv6
  refine hK.out _ _ (k12.kept hy) (fun hHeld => ?_)
  clear hK K
  try simp only [Act.put, List.getElem_toArray, List.getElem_cons_succ, List.getElem_cons_zero, List.setIfInBounds_toArray, List.set_cons_zero, List.set_cons_succ]
  refine wpAnyH_ready (rs := [5]) (by kernel_rfl) (by simp) ?_
  refine AllReadyH.cons rfl (fun K hK => ?_) AllReadyH.nil
  go_simp
  refine (rnormU _ _ _ _ _ hi6 (by omega)).mono ?_
  rintro e9 w13 ⟨⟨p1b, n1b, c1b, rfl, i1b⟩, hbn⟩
  have hyn := bt hy hbn
  refine hK.out _ _ (k12.kept hyn) (fun hHeld => ?_)
  clear hK K
  try simp only [Act.put, List.getElem_toArray, List.getElem_cons_succ, List.getElem_cons_zero, List.setIfInBounds_toArray, List.set_cons_zero, List.set_cons_succ]
  refine wpAnyH_take (i := 6) (v := ?_) rfl (by kernel_rfl) (by kernel_rfl) (by kernel_rfl) (fun _ _ _ h => h) (Or.inl ⟨by rfl, ?_⟩) hHeld ?_
  rotate_left
  · intro w' hSw; try dsimp only at hSw
    go_simp; try (with_reducible rfl)
  try simp only [Act.put, List.getElem_toArray, List.getElem_cons_succ, List.getElem_cons_zero, List.setIfInBounds_toArray, List.set_cons_zero, List.set_cons_succ]
  refine wpAnyH_take (i := 7) (v := ?_) rfl (by kernel_rfl) (by kernel_rfl) (by kernel_rfl) (fun _ _ _ h => h) (Or.inl ⟨by rfl, ?_⟩) hHeld ?_
  rotate_left
  · intro w' hSw; try dsimp only at hSw
    go_simp; try (with_reducible rfl)
  try simp only [Act.put, List.getElem_toArray, List.getElem_cons_succ, List.getElem_cons_zero, List.setIfInBounds_toArray, List.set_cons_zero, List.set_cons_succ]
  refine wpAnyH_take (i := 8) (v := ?_) rfl (by kernel_rfl) (by kernel_rfl) (by kernel_rfl) (fun _ _ _ h => h) (Or.inl ⟨by rfl, ?_⟩) hHeld ?_
  rotate_left
  · intro w' hSw; try dsimp only at hSw
    go_simp; try (with_reducible rfl)
  try simp only [Act.put, List.getElem_toArray, List.getElem_cons_succ, List.getElem_cons_zero, List.setIfInBounds_toArray, List.set_cons_zero, List.set_cons_succ]
  refine wpAnyH_take (i := 9) (v := ?_) rfl (by kernel_rfl) (by kernel_rfl) (by kernel_rfl) (fun _ _ _ h => h) (Or.inl ⟨by rfl, ?_⟩) hHeld ?_
  rotate_left
  · intro w' hSw; try dsimp only at hSw
    go_simp; try (with_reducible rfl)
  try simp only [Act.put, List.getElem_toArray, List.getElem_cons_succ, List.getElem_cons_zero, List.setIfInBounds_toArray, List.set_cons_zero, List.set_cons_succ]
  refine wpAnyH_take (i := 10) (v := ?_) rfl (by kernel_rfl) (by kernel_rfl) (by kernel_rfl) (fun _ _ _ h => h) (Or.inl ⟨by rfl, ?_⟩) hHeld ?_
  rotate_left
  · intro w' hSw; try dsimp only at hSw
    go_simp; try (with_reducible rfl)
  try simp only [Act.put, List.getElem_toArray, List.getElem_cons_succ, List.getElem_cons_zero, List.setIfInBounds_toArray, List.set_cons_zero, List.set_cons_succ]
  refine wpAnyH_done (by kernel_rfl) ?_ _
  refine NoPanic.normal ?_
  have b13 := bt b12 hyn
  have k13 := k12.kept hyn
  have c13_0 := k13.cell' (i := 0) rfl
  have c13_1 := k13.cell' (i := 1) rfl
  have c13_2 := k13.cell' (i := 2) rfl
  replace hiw := hiw.below hyn
  replace i1a := i1a.below hyn
  clear hHeld hyn hbn hy hi6 hown5 hgrow5 hoz ksz hz b12 k12 c12_0 c12_1 c12_2
  obtain rfl : n1a = n1b := i1a.len.symm.trans i1b.len
  generalize norE (l ++ [e]) = NE at *
  go_wp2_with fail
  refine (equalE_yes _ _ _ _ _ _ _ i1a i1b).mono ?_
  rintro e9 w14 ⟨rfl, hb14⟩
  have b14 := bt b13 hb14
  have k14 := k13.kept hb14
  have c14_0 := k14.cell' (i := 0) rfl
  have c14_1 := k14.cell' (i := 1) rfl
  have c14_2 := k14.cell' (i := 2) rfl
  replace hiw := hiw.below hb14
  clear i1a i1b
  clear b13 hb14 k13 c13_0 c13_1 c13_2
  go_wp2_with fail
  refine (equalE_yes _ _ _ _ _ _ _ (h.below b14) hiw).mono ?_
  rintro e9 w90 ⟨rfl, hb90⟩
  have b90 := bt b14 hb90
  go_wp2
  go_ret
  exact ⟨rfl, b90⟩
end Go.Proofs.Ytmboohadindlfaa
