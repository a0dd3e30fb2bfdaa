/-
  The law InodeBack, walked.
-/
import Derived.Test.YtgeomfgfeemciaaInD
import Derived.Test.YtgeomfgfeemciaaInL
import Derived.Test.YtgeomfgfeemciaaInS
namespace Go.Proofs.Ytgeomfgfeemciaa
open Go.RowKit
theorem Blk.ino7 {w : World} {g : Nat} {t : TypeId} {x0 x1 x2 x3 x4 x5 x6 : Value} (h : Blk w g t [x0, x1, x2, x3, x4, x5, x6]) :
    w.cell? ⟨g, 0, none⟩ = some x0 ∧ w.cell? ⟨g, 1, none⟩ = some x1 ∧ w.cell? ⟨g, 2, none⟩ = some x2 ∧ w.cell? ⟨g, 3, none⟩ = some x3 ∧ w.cell? ⟨g, 4, none⟩ = some x4 ∧ w.cell? ⟨g, 5, none⟩ = some x5 ∧ w.cell? ⟨g, 6, none⟩ = some x6 :=
  ⟨h.cell' rfl, h.cell' rfl, h.cell' rfl, h.cell' rfl, h.cell' rfl, h.cell' rfl, h.cell' rfl⟩
theorem zero_in {w : World} {B g : Nat} (h : w.ownsRow B 5 1 (.slice (some ⟨g, 0, none⟩) 64 64) 64 (vals (List.replicate 64 0))) : In w (some ⟨g, 0, none⟩) 64 64 (List.replicate 64 0) := by
  obtain ⟨p', c', hv, hin⟩ := in_of_owns h (fun x hx => by rw [List.eq_of_mem_replicate hx]; decide) (by decide)
  cases hv; exact hin
set_option linter.unusedSimpArgs false in
set_option linter.unusedVariables false in
set_option maxRecDepth 100000 in
set_option maxHeartbeats 8000000 in
theorem back_walk (x : Ino) (p q : Option Addr) (n c m d : Nat) (ys : List Nat) (w : World) (hx : InE w p n c x.rt) (hy : In w q m d ys) :
    Calls Try.prog 5 #[x.val p n c, .slice q m d] w fun e w' => e = .returned (.bool true) ∧ Below w.heap.size w w' := by
  obtain ⟨kd, lk, sz, nx, ge, dp, rt⟩ := x
  dsimp only at hx
  obtain ⟨i0, hi, hz0, hz1, hz2⟩ := info_parts info5
  have hdz := fun p n c w h => idecode_any p n c (List.replicate 64 0) w h
  simp only [decI_ok zero_dec.1, decE_ok zero_dec.1, zero_dec.2] at hdz
  unfold zeroI at hdz
  have hb0 := below_alloc w (.cells #[.int .i64 kd, .int .i64 lk, .int .i64 sz, .int .i64 nx, .int .i64 ge, .int .i64 dp, .slice p n c] 24)
  have r0 := Blk.new' w 24 #[.int .i64 kd, .int .i64 lk, .int .i64 sz, .int .i64 nx, .int .i64 ge, .int .i64 dp, .slice p n c]
  go_enter Try.func5, Try.ntmps5
  go_wp2_with fail
  refine (live_any _).mono ?_
  rintro e w1 ⟨rfl, hb1⟩
  have r1 := r0.kept hb1
  have hx1 := (hx.below hb0).below hb1
  have hy1 := (hy.below hb0).below hb1
  have hB1 := bt hb0 hb1
  obtain ⟨a0, a1, a2, a3, a4, a5, a6⟩ := r1.ino7
  clear hb0 hb1 r0
  cases hm : inoB ⟨kd, lk, sz, nx, ge, dp, rt⟩ with
  | false =>
    have HM : Hid (inoE ⟨kd, lk, sz, nx, ge, dp, rt⟩ = 140) := inoE_no hm
    clear hm
    go_upto_region 8 with (go_at_call 8; refine (iencode_any ⟨kd, lk, sz, nx, ge, dp, rt⟩ p n c _ hx1).mono ?_; rintro e w2 ⟨p2, n2, c2, rfl, hin2, hb2, hf2⟩; rw [HM.out])
    clear a0 a1 a2 a3 a4 a5 a6
    have hy1 := hy1.below hb2
    have hBw := bt hB1 hb2
    cases hd : decB ys with
    | false =>
      have hdy := fun p n c w h => idecode_any p n c ys w h
      simp only [decI_no hd, decE_no hd] at hdy
      unfold zeroI at hdy
      clear hd
      go_upto_region 13 with (go_at_call 10; refine (hdy _ _ _ _ hy1).mono ?_; rintro e w5 ⟨p5, n5, c5, rfl, hi5, hb5, hf5⟩; have hBT := bt (bt hBw hb5) (below_alloc w5 (.cells #[.int .i64 0, .int .i64 0, .int .i64 0, .int .i64 0, .int .i64 0, .int .i64 0, .slice p5 n5 c5] 24)))
      generalize w5.alloc (.cells #[.int .i64 0, .int .i64 0, .int .i64 0, .int .i64 0, .int .i64 0, .int .i64 0, .slice p5 n5 c5] 24) = WT at *
      go_upto_region 14 with (first
        | (at_make; refine wpList_make_full _ rfl _ _ 25 rfl WT.heap.size 5 i0 (.int .u8 0) 1 Try.underlying25 hi hz0 hz1 .i64 .i64 _ _ 64 rfl rfl rfl rfl (by rw [hz2]; omega) (by unfold maxLen; omega) (Nat.le_refl _) ?_; intro w8 hown8 hgrow8; have hb8 := below_grown0 hgrow8; have hi8 := zero_in (made_owns hown8))
        | (go_at_call 10; refine (hdz _ _ _ _ hi8).mono ?_; rintro e w9 ⟨p9, n9, c9, rfl, hi9, hb9, hf9⟩; have hB9 := bt (bt hBT hb8) hb9; have s9 := Blk.new' w9 24 #[.int .i64 0, .int .i64 0, .int .i64 0, .int .i64 0, .int .i64 0, .int .i64 0, .slice p9 n9 c9]; have k9 := below_alloc w9 (.cells #[.int .i64 0, .int .i64 0, .int .i64 0, .int .i64 0, .int .i64 0, .int .i64 0, .slice p9 n9 c9] 24); obtain ⟨z0, z1, z2, z3, z4, z5, z6⟩ := s9.ino7; have hi10 := hi9.below k9))
      go_wp2_with (go_at_call 13; refine (rsame_any ⟨0, 0, 0, 0, 0, 0, []⟩ ⟨0, 0, 0, 0, 0, 0, []⟩ p9 none n9 c9 0 0 _ hi10 (InE.empty _)).mono ?_; rintro e w11 ⟨rfl, hb11⟩; rw [sameB_iff.2 rfl])
      go_ret
      exact ⟨rfl, bt (bt hB9 k9) hb11⟩
    | true =>
      have hdy := fun p n c w h => idecode_any p n c ys w h
      have hbk := decB_back hd
      have hmy := inoE_ok (decB_may hd)
      simp only [decI_ok hd, decE_ok hd] at hdy
      clear hd
      generalize rdI ys = y at *
      obtain ⟨kd2, lk2, sz2, nx2, ge2, dp2, rt2⟩ := y
      dsimp only at hdy
      have HM : Hid _ := hmy
      have HB : Hid _ := hbk
      clear hmy hbk
      go_upto_region 13 with (first
        | (go_at_call 10; refine (hdy _ _ _ _ hy1).mono ?_; rintro e w5 ⟨p5, n5, c5, rfl, hi5, hb5, hf5⟩; have hk5 := below_alloc w5 (.cells #[.int .i64 kd2, .int .i64 lk2, .int .i64 sz2, .int .i64 nx2, .int .i64 ge2, .int .i64 dp2, .slice p5 n5 c5] 24); have hB5 := bt (bt hBw hb5) hk5; have s5 := Blk.new' w5 24 #[.int .i64 kd2, .int .i64 lk2, .int .i64 sz2, .int .i64 nx2, .int .i64 ge2, .int .i64 dp2, .slice p5 n5 c5]; obtain ⟨y0, y1, y2, y3, y4, y5, y6⟩ := s5.ino7; have hi6 := hi5.below hk5)
        | (go_at_call 8; refine (iencode_any ⟨kd2, lk2, sz2, nx2, ge2, dp2, rt2⟩ p5 n5 c5 _ hi6).mono ?_; rintro e w7 ⟨p7, n7, c7, rfl, hi7, hb7, hf7⟩; rw [HM.out]; rw [HB.out] at hi7; have hBT := bt hB5 hb7; have hy7 := (hy1.below hb5).below hk5 |>.below hb7)
        | (go_at_call 12; refine (equal_any p7 q n7 c7 m d ys ys _ hi7 hy7).mono ?_; rintro e w' ⟨rfl, hw'⟩; have hw2 := hw'.symm; subst hw2; clear hw'; rw [show (ys == ys) = true from by simp]))
      generalize w7 = WT at *
      go_upto_region 14 with (first
        | (at_make; refine wpList_make_full _ rfl _ _ 25 rfl WT.heap.size 5 i0 (.int .u8 0) 1 Try.underlying25 hi hz0 hz1 .i64 .i64 _ _ 64 rfl rfl rfl rfl (by rw [hz2]; omega) (by unfold maxLen; omega) (Nat.le_refl _) ?_; intro w8 hown8 hgrow8; have hb8 := below_grown0 hgrow8; have hi8 := zero_in (made_owns hown8))
        | (go_at_call 10; refine (hdz _ _ _ _ hi8).mono ?_; rintro e w9 ⟨p9, n9, c9, rfl, hi9, hb9, hf9⟩; have hB9 := bt (bt hBT hb8) hb9; have s9 := Blk.new' w9 24 #[.int .i64 0, .int .i64 0, .int .i64 0, .int .i64 0, .int .i64 0, .int .i64 0, .slice p9 n9 c9]; have k9 := below_alloc w9 (.cells #[.int .i64 0, .int .i64 0, .int .i64 0, .int .i64 0, .int .i64 0, .int .i64 0, .slice p9 n9 c9] 24); obtain ⟨z0, z1, z2, z3, z4, z5, z6⟩ := s9.ino7; have hi10 := hi9.below k9))
      go_wp2_with (go_at_call 13; refine (rsame_any ⟨0, 0, 0, 0, 0, 0, []⟩ ⟨0, 0, 0, 0, 0, 0, []⟩ p9 none n9 c9 0 0 _ hi10 (InE.empty _)).mono ?_; rintro e w11 ⟨rfl, hb11⟩; rw [sameB_iff.2 rfl])
      go_ret
      exact ⟨rfl, bt (bt hB9 k9) hb11⟩
  | true =>
    have HM : Hid (inoE ⟨kd, lk, sz, nx, ge, dp, rt⟩ = 0) := inoE_ok hm
    have hdx := fun p n c w h => idecode_any p n c (encL ⟨kd, lk, sz, nx, ge, dp, rt⟩) w h
    simp only [decI_ok (decB_enc hm), decE_ok (decB_enc hm), rdI_enc hm] at hdx
    clear hm
    go_upto_region 8 with (first
      | (go_at_call 8; refine (iencode_any ⟨kd, lk, sz, nx, ge, dp, rt⟩ p n c _ hx1).mono ?_; rintro e w2 ⟨p2, n2, c2, rfl, hin2, hb2, hf2⟩; rw [HM.out])
      | (go_at_call 10; refine (hdx _ _ _ _ hin2).mono ?_; rintro e w3 ⟨p3, n3, c3, rfl, hi3, hb3, hf3⟩; have hk3 := below_alloc w3 (.cells #[.int .i64 kd, .int .i64 lk, .int .i64 sz, .int .i64 nx, .int .i64 ge, .int .i64 dp, .slice p3 n3 c3] 24); have s3 := Blk.new' w3 24 #[.int .i64 kd, .int .i64 lk, .int .i64 sz, .int .i64 nx, .int .i64 ge, .int .i64 dp, .slice p3 n3 c3]; obtain ⟨b0, b1, b2, b3, b4, b5, b6⟩ := s3.ino7; have hi4 := hi3.below hk3; have hx4 := ((hx1.below hb2).below hb3).below hk3; clear a0 a1 a2 a3 a4 a5 a6; obtain ⟨a0, a1, a2, a3, a4, a5, a6⟩ := (((r1.kept hb2).kept hb3).kept hk3).ino7)
      | (go_at_call 13; refine (rsame_any ⟨kd, lk, sz, nx, ge, dp, rt⟩ ⟨kd, lk, sz, nx, ge, dp, rt⟩ p p3 n c n3 c3 _ hx4 hi4).mono ?_; rintro e w4 ⟨rfl, hb4⟩; rw [sameB_iff.2 rfl]; clear a0 a1 a2 a3 a4 a5 a6 b0 b1 b2 b3 b4 b5 b6))
    have hy1 := (((hy1.below hb2).below hb3).below hk3).below hb4
    have hBw := bt (bt (bt (bt hB1 hb2) hb3) hk3) hb4
    cases hd : decB ys with
    | false =>
      have hdy := fun p n c w h => idecode_any p n c ys w h
      simp only [decI_no hd, decE_no hd] at hdy
      unfold zeroI at hdy
      clear hd
      go_upto_region 13 with (go_at_call 10; refine (hdy _ _ _ _ hy1).mono ?_; rintro e w5 ⟨p5, n5, c5, rfl, hi5, hb5, hf5⟩; have hBT := bt (bt hBw hb5) (below_alloc w5 (.cells #[.int .i64 0, .int .i64 0, .int .i64 0, .int .i64 0, .int .i64 0, .int .i64 0, .slice p5 n5 c5] 24)))
      generalize w5.alloc (.cells #[.int .i64 0, .int .i64 0, .int .i64 0, .int .i64 0, .int .i64 0, .int .i64 0, .slice p5 n5 c5] 24) = WT at *
      go_upto_region 14 with (first
        | (at_make; refine wpList_make_full _ rfl _ _ 25 rfl WT.heap.size 5 i0 (.int .u8 0) 1 Try.underlying25 hi hz0 hz1 .i64 .i64 _ _ 64 rfl rfl rfl rfl (by rw [hz2]; omega) (by unfold maxLen; omega) (Nat.le_refl _) ?_; intro w8 hown8 hgrow8; have hb8 := below_grown0 hgrow8; have hi8 := zero_in (made_owns hown8))
        | (go_at_call 10; refine (hdz _ _ _ _ hi8).mono ?_; rintro e w9 ⟨p9, n9, c9, rfl, hi9, hb9, hf9⟩; have hB9 := bt (bt hBT hb8) hb9; have s9 := Blk.new' w9 24 #[.int .i64 0, .int .i64 0, .int .i64 0, .int .i64 0, .int .i64 0, .int .i64 0, .slice p9 n9 c9]; have k9 := below_alloc w9 (.cells #[.int .i64 0, .int .i64 0, .int .i64 0, .int .i64 0, .int .i64 0, .int .i64 0, .slice p9 n9 c9] 24); obtain ⟨z0, z1, z2, z3, z4, z5, z6⟩ := s9.ino7; have hi10 := hi9.below k9))
      go_wp2_with (go_at_call 13; refine (rsame_any ⟨0, 0, 0, 0, 0, 0, []⟩ ⟨0, 0, 0, 0, 0, 0, []⟩ p9 none n9 c9 0 0 _ hi10 (InE.empty _)).mono ?_; rintro e w11 ⟨rfl, hb11⟩; rw [sameB_iff.2 rfl])
      go_ret
      exact ⟨rfl, bt (bt hB9 k9) hb11⟩
    | true =>
      have hdy := fun p n c w h => idecode_any p n c ys w h
      have hbk := decB_back hd
      have hmy := inoE_ok (decB_may hd)
      simp only [decI_ok hd, decE_ok hd] at hdy
      clear hd
      generalize rdI ys = y at *
      obtain ⟨kd2, lk2, sz2, nx2, ge2, dp2, rt2⟩ := y
      dsimp only at hdy
      have HM : Hid _ := hmy
      have HB : Hid _ := hbk
      clear hmy hbk
      go_upto_region 13 with (first
        | (go_at_call 10; refine (hdy _ _ _ _ hy1).mono ?_; rintro e w5 ⟨p5, n5, c5, rfl, hi5, hb5, hf5⟩; have hk5 := below_alloc w5 (.cells #[.int .i64 kd2, .int .i64 lk2, .int .i64 sz2, .int .i64 nx2, .int .i64 ge2, .int .i64 dp2, .slice p5 n5 c5] 24); have hB5 := bt (bt hBw hb5) hk5; have s5 := Blk.new' w5 24 #[.int .i64 kd2, .int .i64 lk2, .int .i64 sz2, .int .i64 nx2, .int .i64 ge2, .int .i64 dp2, .slice p5 n5 c5]; obtain ⟨y0, y1, y2, y3, y4, y5, y6⟩ := s5.ino7; have hi6 := hi5.below hk5)
        | (go_at_call 8; refine (iencode_any ⟨kd2, lk2, sz2, nx2, ge2, dp2, rt2⟩ p5 n5 c5 _ hi6).mono ?_; rintro e w7 ⟨p7, n7, c7, rfl, hi7, hb7, hf7⟩; rw [HM.out]; rw [HB.out] at hi7; have hBT := bt hB5 hb7; have hy7 := (hy1.below hb5).below hk5 |>.below hb7)
        | (go_at_call 12; refine (equal_any p7 q n7 c7 m d ys ys _ hi7 hy7).mono ?_; rintro e w' ⟨rfl, hw'⟩; have hw2 := hw'.symm; subst hw2; clear hw'; rw [show (ys == ys) = true from by simp]))
      generalize w7 = WT at *
      go_upto_region 14 with (first
        | (at_make; refine wpList_make_full _ rfl _ _ 25 rfl WT.heap.size 5 i0 (.int .u8 0) 1 Try.underlying25 hi hz0 hz1 .i64 .i64 _ _ 64 rfl rfl rfl rfl (by rw [hz2]; omega) (by unfold maxLen; omega) (Nat.le_refl _) ?_; intro w8 hown8 hgrow8; have hb8 := below_grown0 hgrow8; have hi8 := zero_in (made_owns hown8))
        | (go_at_call 10; refine (hdz _ _ _ _ hi8).mono ?_; rintro e w9 ⟨p9, n9, c9, rfl, hi9, hb9, hf9⟩; have hB9 := bt (bt hBT hb8) hb9; have s9 := Blk.new' w9 24 #[.int .i64 0, .int .i64 0, .int .i64 0, .int .i64 0, .int .i64 0, .int .i64 0, .slice p9 n9 c9]; have k9 := below_alloc w9 (.cells #[.int .i64 0, .int .i64 0, .int .i64 0, .int .i64 0, .int .i64 0, .int .i64 0, .slice p9 n9 c9] 24); obtain ⟨z0, z1, z2, z3, z4, z5, z6⟩ := s9.ino7; have hi10 := hi9.below k9))
      go_wp2_with (go_at_call 13; refine (rsame_any ⟨0, 0, 0, 0, 0, 0, []⟩ ⟨0, 0, 0, 0, 0, 0, []⟩ p9 none n9 c9 0 0 _ hi10 (InE.empty _)).mono ?_; rintro e w11 ⟨rfl, hb11⟩; rw [sameB_iff.2 rfl])
      go_ret
      exact ⟨rfl, bt (bt hB9 k9) hb11⟩
end Go.Proofs.Ytgeomfgfeemciaa
