/-
  What the reference's Group answers.
-/
import Derived.Test.YtbimcdaplnmjdaaLyRef2
namespace Go.Proofs.Ytbimcdaplnmjdaa
open Go.RowKit
set_option linter.unusedSimpArgs false in
set_option maxHeartbeats 4000000 in
set_option maxRecDepth 100000 in
theorem rgroup_any (b j g : Int) (w : World) : Calls Try.prog 13 #[.agg #[.int .i64 b, .int .i64 j], .int .i64 g] w fun e w' => e = .returned (.tuple #[.agg (grpV b j g), .int .i64 (grpE b j g)]) ∧ Below w.heap.size w w' := by
  have hb0 := bt (below_alloc w (.cells #[.int .i64 b, .int .i64 j] 24)) (below_alloc _ (.cells #[.int .i64 0, .int .i64 0, .int .i64 0, .int .i64 0, .int .i64 0, .int .i64 0] 30))
  have b0 := (Blk.new' w 24 #[.int .i64 b, .int .i64 j]).alloc (.cells #[.int .i64 0, .int .i64 0, .int .i64 0, .int .i64 0, .int .i64 0, .int .i64 0] 30)
  have r0 : Blk ((w.alloc (.cells #[.int .i64 b, .int .i64 j] 24)).alloc (.cells #[.int .i64 0, .int .i64 0, .int .i64 0, .int .i64 0, .int .i64 0, .int .i64 0] 30)) (w.heap.size + 1) 30 [.int .i64 0, .int .i64 0, .int .i64 0, .int .i64 0, .int .i64 0, .int .i64 0] := by
    have := Blk.new' (w.alloc (.cells #[.int .i64 b, .int .i64 j] 24)) 30 #[.int .i64 0, .int .i64 0, .int .i64 0, .int .i64 0, .int .i64 0, .int .i64 0]
    rw [World.size_alloc] at this; exact this
  have hck := fun w => rchk_any b j w
  cases hok : okS b j with
  | false =>
    rw [chk_no hok] at hck
    rw [(grp_no (g := g) hok).1, (grp_no (g := g) hok).2]
    clear hok
    go_enter Try.func13, Try.ntmps13
    go_wp2_with (first
        | (go_at_call 15; refine (hck _).mono ?_; rintro e w1 ⟨rfl, hb1⟩; have k1 := b0.kept hb1; have r1 := r0.kept hb1; have hB1 := bt hb0 hb1; have c0 := k1.cell' (i := 0) rfl; have c1 := k1.cell' (i := 1) rfl)
        | (refine wpList_store_blk rfl 30 (.tmp 4) (.tmp 13) rfl _ 0 [.int .i64 0, .int .i64 0, .int .i64 0, .int .i64 0, .int .i64 0, .int .i64 0] rfl rfl r1 (by simp) size_group one6 ?_; intro w8 b8 t8))
    refine ret_groupE rfl rfl b8 rfl rfl ⟨rfl, t8.below hB1 (by omega)⟩
  | true =>
    rw [chk_ok hok] at hck
    obtain ⟨h1, h2, h3, h4, -⟩ := okS_iff.1 hok
    have hgr := gN_rng h1 h2
    have hgs := fun w => rgrps_any b j w
    rw [show grpsN b j = gN b from by unfold grpsN; rw [hok]; rfl] at hgs
    have hds := fun w => rdscs_any b j w
    rw [show descsN b j = dN b from by unfold descsN; rw [hok]; rfl] at hds
    by_cases hg1 : g < 0
    · rw [(grp_far hok (by omega)).1, (grp_far (g := g) hok (by omega)).2]
      clear hgr hok
      go_enter Try.func13, Try.ntmps13
      go_wp2_with (first
          | (go_at_call 15; refine (hck _).mono ?_; rintro e w1 ⟨rfl, hb1⟩; have k1 := b0.kept hb1; have r1 := r0.kept hb1; have hB1 := bt hb0 hb1; have c0 := k1.cell' (i := 0) rfl; have c1 := k1.cell' (i := 1) rfl)
          | (refine wpList_store_blk rfl 30 (.tmp 4) (.tmp 23) rfl _ 0 [.int .i64 0, .int .i64 0, .int .i64 0, .int .i64 0, .int .i64 0, .int .i64 0] rfl rfl r1 (by simp) size_group one6 ?_; intro w8 b8 t8))
      refine ret_groupE rfl rfl b8 rfl rfl ⟨rfl, t8.below hB1 (by omega)⟩
    by_cases hg2 : gN b ≤ g
    · rw [(grp_far hok (by omega)).1, (grp_far (g := g) hok (by omega)).2]
      generalize gN b = n at *
      clear hgr hok
      go_enter Try.func13, Try.ntmps13
      go_wp2_with (first
          | (go_at_call 15; refine (hck _).mono ?_; rintro e w1 ⟨rfl, hb1⟩; have k1 := b0.kept hb1; have r1 := r0.kept hb1; have hB1 := bt hb0 hb1; have c0 := k1.cell' (i := 0) rfl; have c1 := k1.cell' (i := 1) rfl)
          | (go_at_call 17; refine (hgs _).mono ?_; rintro e w2 ⟨rfl, hb2⟩; have k2 := k1.kept hb2; have d0 := k2.cell' (i := 0) rfl; have d1 := k2.cell' (i := 1) rfl; have r2 := r1.kept hb2; have hl2 := r2.lt; have hB2 := bt hB1 hb2)
          | (refine wpList_store_blk rfl 30 (.tmp 4) (.tmp 23) rfl _ 0 [.int .i64 0, .int .i64 0, .int .i64 0, .int .i64 0, .int .i64 0, .int .i64 0] rfl rfl r2 (by simp) size_group one6 ?_; intro w8 b8 t8))
      refine ret_groupE rfl rfl b8 rfl rfl ⟨rfl, t8.below hB2 (by omega)⟩
    rw [(grp_ok (g := g) hok (by omega)).1, (grp_ok (g := g) hok (by omega)).2]
    by_cases hg0 : g = 0
    · subst hg0
      obtain ⟨d, HD⟩ : ∃ d, Hid (dN b = d) := ⟨_, rfl⟩
      have hd1 : 1 ≤ d := by rw [← HD.out]; exact (dN_rng h1 h2).1
      have hd2 : d ≤ 4 := by rw [← HD.out]; exact (dN_rng h1 h2).2
      rw [HD.out] at hds
      have HR : Hid (grpA b j 0 = #[.int .i64 (0), .int .i64 (min 128 b), .int .i64 (1 + d), .int .i64 (1 + d + 1), .int .i64 (1 + d + 2), .int .i64 (1 + d + 2 + 4 + j)]) := by
        show _ = _
        unfold grpA gMap gData gLen
        rw [HD.out]
        simp
        omega
      rw [HR.out]
      generalize gN b = n at *
      have hn1 := hgr.1
      have hn2 := hgr.2
      clear hgr hok hg1
      go_enter Try.func13, Try.ntmps13
      go_wp2_with (first
          | (go_at_call 15; refine (hck _).mono ?_; rintro e w1 ⟨rfl, hb1⟩; have k1 := b0.kept hb1; have r1 := r0.kept hb1; have hB1 := bt hb0 hb1; have c0 := k1.cell' (i := 0) rfl; have c1 := k1.cell' (i := 1) rfl)
          | (go_at_call 17; refine (hgs _).mono ?_; rintro e w2 ⟨rfl, hb2⟩; have k2 := k1.kept hb2; have d0 := k2.cell' (i := 0) rfl; have d1 := k2.cell' (i := 1) rfl; have r2 := r1.kept hb2; have hl2 := r2.lt; have hB2 := bt hB1 hb2; have kz := k2.alloc (.cells #[.int .i64 (0), .int .i64 (min 128 b), .int .i64 (0), .int .i64 (0), .int .i64 (0), .int .i64 (0)] 30); have hl5 := k2.lt; have q0 := kz.cell' (i := 0) rfl; have q1 := kz.cell' (i := 1) rfl)
          | (go_at_call 19; refine (hds _).mono ?_; rintro e w4 ⟨rfl, hb4⟩; have x4 := (Blk.new' w2 30 #[.int .i64 (0), .int .i64 (min 128 b), .int .i64 (0), .int .i64 (0), .int .i64 (0), .int .i64 (0)]).kept hb4; have k4 := (k2.alloc _).kept hb4; have r4 := (r2.alloc _).kept hb4; have hB4 := bt (bt hB2 (below_alloc w2 _)) hb4; have P0 := k4.cell' (i := 0) rfl; have P1 := k4.cell' (i := 1) rfl; have v0 := x4.cell' (i := 0) rfl; have v1 := x4.cell' (i := 1) rfl; have v2 := x4.cell' (i := 2) rfl; have v3 := x4.cell' (i := 3) rfl; have v4 := x4.cell' (i := 4) rfl; have v5 := x4.cell' (i := 5) rfl)
          | (refine wpList_store_cell rfl 3 (.tmp 39) (.tmp 38) rfl _ 2 (.int .i64 (1 + d)) rfl rfl x4 (by simp) size_int rfl ?_; intro w5 x5 t5; replace x5 : Blk w5 w2.heap.size 30 [.int .i64 (0), .int .i64 (min 128 b), .int .i64 (1 + d), .int .i64 (0), .int .i64 (0), .int .i64 (0)] := x5; have k5 := k4.turned t5 (by omega); have r5 := r4.turned t5 (by omega); have hB5 := t5.below hB4 (by omega); have Q0 := k5.cell' (i := 0) rfl; have Q1 := k5.cell' (i := 1) rfl; have q0 := x5.cell' (i := 0) rfl; have q1 := x5.cell' (i := 1) rfl; have q2 := x5.cell' (i := 2) rfl; have q3 := x5.cell' (i := 3) rfl; have q4 := x5.cell' (i := 4) rfl; have q5 := x5.cell' (i := 5) rfl)
          | (refine wpList_store_cell rfl 3 (.tmp 43) (.tmp 42) rfl _ 3 (.int .i64 (1 + d + 1)) rfl rfl x5 (by simp) size_int rfl ?_; intro w6 x6 t6; replace x6 : Blk w6 w2.heap.size 30 [.int .i64 (0), .int .i64 (min 128 b), .int .i64 (1 + d), .int .i64 (1 + d + 1), .int .i64 (0), .int .i64 (0)] := x6; have k6 := k5.turned t6 (by omega); have r6 := r5.turned t6 (by omega); have hB6 := t6.below hB5 (by omega); have Y0 := k6.cell' (i := 0) rfl; have Y1 := k6.cell' (i := 1) rfl; have y0 := x6.cell' (i := 0) rfl; have y1 := x6.cell' (i := 1) rfl; have y2 := x6.cell' (i := 2) rfl; have y3 := x6.cell' (i := 3) rfl; have y4 := x6.cell' (i := 4) rfl; have y5 := x6.cell' (i := 5) rfl)
          | (refine wpList_store_cell rfl 3 (.tmp 47) (.tmp 46) rfl _ 4 (.int .i64 (1 + d + 2)) rfl rfl x6 (by simp) size_int rfl ?_; intro w7 x7 t7; replace x7 : Blk w7 w2.heap.size 30 [.int .i64 (0), .int .i64 (min 128 b), .int .i64 (1 + d), .int .i64 (1 + d + 1), .int .i64 (1 + d + 2), .int .i64 (0)] := x7; have k7 := k6.turned t7 (by omega); have r7 := r6.turned t7 (by omega); have hB7 := t7.below hB6 (by omega); have Z0 := k7.cell' (i := 0) rfl; have Z1 := k7.cell' (i := 1) rfl; have z0 := x7.cell' (i := 0) rfl; have z1 := x7.cell' (i := 1) rfl; have z2 := x7.cell' (i := 2) rfl; have z3 := x7.cell' (i := 3) rfl; have z4 := x7.cell' (i := 4) rfl; have z5 := x7.cell' (i := 5) rfl)
          | (refine wpList_store_cell rfl 3 (.tmp 51) (.tmp 50) rfl _ 5 (.int .i64 (1 + d + 2 + 4)) rfl rfl x7 (by simp) size_int rfl ?_; intro w8 x8 t8; replace x8 : Blk w8 w2.heap.size 30 [.int .i64 (0), .int .i64 (min 128 b), .int .i64 (1 + d), .int .i64 (1 + d + 1), .int .i64 (1 + d + 2), .int .i64 (1 + d + 2 + 4)] := x8; have k8 := k7.turned t8 (by omega); have r8 := r7.turned t8 (by omega); have hB8 := t8.below hB7 (by omega); have U0 := k8.cell' (i := 0) rfl; have U1 := k8.cell' (i := 1) rfl; have u0 := x8.cell' (i := 0) rfl; have u1 := x8.cell' (i := 1) rfl; have u2 := x8.cell' (i := 2) rfl; have u3 := x8.cell' (i := 3) rfl; have u4 := x8.cell' (i := 4) rfl; have u5 := x8.cell' (i := 5) rfl)
          | (refine wpList_store_cell rfl 3 (.tmp 59) (.tmp 58) rfl _ 5 (.int .i64 (1 + d + 2 + 4 + j)) rfl rfl x8 (by simp) size_int rfl ?_; intro w9 x9 t9; replace x9 : Blk w9 w2.heap.size 30 [.int .i64 (0), .int .i64 (min 128 b), .int .i64 (1 + d), .int .i64 (1 + d + 1), .int .i64 (1 + d + 2), .int .i64 (1 + d + 2 + 4 + j)] := x9; have k9 := k8.turned t9 (by omega); have r9 := r8.turned t9 (by omega); have hB9 := t9.below hB8 (by omega); have T0 := k9.cell' (i := 0) rfl; have T1 := k9.cell' (i := 1) rfl; have t0 := x9.cell' (i := 0) rfl; have t1 := x9.cell' (i := 1) rfl; have t2 := x9.cell' (i := 2) rfl; have t3 := x9.cell' (i := 3) rfl; have t4 := x9.cell' (i := 4) rfl; have t5 := x9.cell' (i := 5) rfl)
          | (refine wpList_store_blk rfl 30 (.tmp 4) (.tmp 60) rfl _ 0 [.int .i64 (0), .int .i64 (min 128 b), .int .i64 (1 + d), .int .i64 (1 + d + 1), .int .i64 (1 + d + 2), .int .i64 (1 + d + 2 + 4 + j)] rfl rfl r9 (by simp) size_group one6 ?_; intro w8 b8 t8))
      refine ret_groupE rfl rfl b8 rfl rfl ⟨rfl, t8.below hB9 (by omega)⟩
    · have HR : Hid (grpA b j g = #[.int .i64 (g * 128), .int .i64 (min 128 (b - g * 128)), .int .i64 (g * 128), .int .i64 (g * 128 + 1), .int .i64 (g * 128 + 2), .int .i64 (g * 128 + 2 + 4)]) := by
        show _ = _
        unfold grpA gMap gData gLen
        rw [if_neg hg0, if_neg hg0]
        simp
        omega
      rw [HR.out]
      have hg3 : (g == 0) = false := by rw [beq_eq_false_iff_ne]; exact hg0
      generalize gN b = n at *
      have hn1 := hgr.1
      have hn2 := hgr.2
      clear hgr hok hg0
      go_enter Try.func13, Try.ntmps13
      go_wp2_with (first
          | (go_at_call 15; refine (hck _).mono ?_; rintro e w1 ⟨rfl, hb1⟩; have k1 := b0.kept hb1; have r1 := r0.kept hb1; have hB1 := bt hb0 hb1; have c0 := k1.cell' (i := 0) rfl; have c1 := k1.cell' (i := 1) rfl)
          | (go_at_call 17; refine (hgs _).mono ?_; rintro e w2 ⟨rfl, hb2⟩; have k2 := k1.kept hb2; have d0 := k2.cell' (i := 0) rfl; have d1 := k2.cell' (i := 1) rfl; have r2 := r1.kept hb2; have hl2 := r2.lt; have hB2 := bt hB1 hb2)
          | (refine wpList_store_blk rfl 30 (.tmp 4) (.tmp 60) rfl _ 0 [.int .i64 (g * 128), .int .i64 (min 128 (b - g * 128)), .int .i64 (g * 128), .int .i64 (g * 128 + 1), .int .i64 (g * 128 + 2), .int .i64 (g * 128 + 2 + 4)] rfl rfl (r2.alloc _) (by simp) size_group one6 ?_; intro w8 b8 t8))
      refine ret_groupE rfl rfl b8 rfl rfl ⟨rfl, t8.below (bt hB2 (below_alloc w2 _)) (by omega)⟩
end Go.Proofs.Ytbimcdaplnmjdaa
