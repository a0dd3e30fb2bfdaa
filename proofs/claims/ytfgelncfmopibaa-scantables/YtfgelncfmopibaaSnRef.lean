/-
  The reference's Newer, less, counts and Greatest.
-/
import Derived.Test.YtfgelncfmopibaaSnNewR
namespace Go.Proofs.Ytfgelncfmopibaa
open Go.RowKit
theorem r03newer_any (k g s t k' g' s' t' : Int) (w : World) :
    Calls Try.prog 73 #[.agg #[.int .i64 k, .int .i64 g, .int .i64 s, .int .i64 t], .agg #[.int .i64 k', .int .i64 g', .int .i64 s', .int .i64 t']] w fun e w' => e = .returned (.bool (newB s t s' t')) ∧ Below w.heap.size w w' := by
  by_cases h : s' < s
  · have e : newB s t s' t' = true := by simp [newB, h]
    rw [e]
    clear e
    go_enter Try.func73, Try.ntmps73
    go_wp2
    go_ret
    exact ⟨rfl, bt (below_alloc w _) (below_alloc _ _)⟩
  · by_cases h2 : s = s'
    · subst h2
      have e : newB s t s t' = decide (t < t') := by simp [newB]
      rw [e]
      clear e
      go_enter Try.func73, Try.ntmps73
      go_wp2
      go_ret
      exact ⟨rfl, bt (below_alloc w _) (below_alloc _ _)⟩
    · have e : newB s t s' t' = false := by simp [newB, h, h2]
      have hb : (s == s') = false := by rw [beq_eq_false_iff_ne]; exact h2
      rw [e]
      clear e h2
      go_enter Try.func73, Try.ntmps73
      go_wp2
      go_ret
      exact ⟨rfl, bt (below_alloc w _) (below_alloc _ _)⟩
set_option linter.unusedSimpArgs false in
set_option maxRecDepth 100000 in
set_option maxHeartbeats 4000000 in
theorem less_any (x y : Fd) (w : World) : Calls Try.prog 41 #[x.val, y.val] w fun e w' => e = .returned (.bool (aheadB x y)) ∧ Below w.heap.size w w' := by
  obtain ⟨xh, xg, xk, xp, xs, xt⟩ := x
  obtain ⟨yh, yg, yk, yp, ys, yt⟩ := y
  dsimp only [Fd.val]
  have hb0 := bt (below_alloc w (.cells #[.int .i64 xh, .int .i64 xg, .int .i64 xk, .int .i64 xp, .int .i64 xs, .int .i64 xt] 33)) (below_alloc _ (.cells #[.int .i64 yh, .int .i64 yg, .int .i64 yk, .int .i64 yp, .int .i64 ys, .int .i64 yt] 33))
  have b0 := (Blk.new' w 33 #[.int .i64 xh, .int .i64 xg, .int .i64 xk, .int .i64 xp, .int .i64 xs, .int .i64 xt]).alloc (.cells #[.int .i64 yh, .int .i64 yg, .int .i64 yk, .int .i64 yp, .int .i64 ys, .int .i64 yt] 33)
  have b1 := Blk.new' (w.alloc (.cells #[.int .i64 xh, .int .i64 xg, .int .i64 xk, .int .i64 xp, .int .i64 xs, .int .i64 xt] 33)) 33 #[.int .i64 yh, .int .i64 yg, .int .i64 yk, .int .i64 yp, .int .i64 ys, .int .i64 yt]
  rw [World.size_alloc] at b1
  unfold aheadB
  dsimp only
  cases ha : newB xs xt ys yt with
  | true =>
    rw [Bool.true_or, if_pos rfl]
    go_enter Try.func41, Try.ntmps41
    go_upto_region 1 with (fail)
    generalize (w.alloc (.cells #[.int .i64 xh, .int .i64 xg, .int .i64 xk, .int .i64 xp, .int .i64 xs, .int .i64 xt] 33)).alloc (.cells #[.int .i64 yh, .int .i64 yg, .int .i64 yk, .int .i64 yp, .int .i64 ys, .int .i64 yt] 33) = W0 at *
    have z0 := b0.cell' (i := 0) rfl; have y0 := b1.cell' (i := 0) rfl; have z1 := b0.cell' (i := 1) rfl; have y1 := b1.cell' (i := 1) rfl; have z2 := b0.cell' (i := 2) rfl; have y2 := b1.cell' (i := 2) rfl; have z3 := b0.cell' (i := 3) rfl; have y3 := b1.cell' (i := 3) rfl; have z4 := b0.cell' (i := 4) rfl; have y4 := b1.cell' (i := 4) rfl; have z5 := b0.cell' (i := 5) rfl; have y5 := b1.cell' (i := 5) rfl
    go_wp2_with (go_at_call 73; refine (r03newer_any _ _ _ _ _ _ _ _ _).mono ?_; rintro e w1 ⟨rfl, hbn⟩; replace b0 := b0.kept hbn; replace b1 := b1.kept hbn; replace hb0 := bt hb0 hbn; clear hbn; have z0 := b0.cell' (i := 0) rfl; have y0 := b1.cell' (i := 0) rfl; have z1 := b0.cell' (i := 1) rfl; have y1 := b1.cell' (i := 1) rfl; have z2 := b0.cell' (i := 2) rfl; have y2 := b1.cell' (i := 2) rfl; have z3 := b0.cell' (i := 3) rfl; have y3 := b1.cell' (i := 3) rfl; have z4 := b0.cell' (i := 4) rfl; have y4 := b1.cell' (i := 4) rfl; have z5 := b0.cell' (i := 5) rfl; have y5 := b1.cell' (i := 5) rfl)
    go_ret
    exact ⟨rfl, hb0⟩
  | false =>
    cases hc : newB ys yt xs xt with
    | true =>
      rw [Bool.false_or, if_pos rfl]
      go_enter Try.func41, Try.ntmps41
      go_upto_region 1 with (fail)
      generalize (w.alloc (.cells #[.int .i64 xh, .int .i64 xg, .int .i64 xk, .int .i64 xp, .int .i64 xs, .int .i64 xt] 33)).alloc (.cells #[.int .i64 yh, .int .i64 yg, .int .i64 yk, .int .i64 yp, .int .i64 ys, .int .i64 yt] 33) = W0 at *
      have z0 := b0.cell' (i := 0) rfl; have y0 := b1.cell' (i := 0) rfl; have z1 := b0.cell' (i := 1) rfl; have y1 := b1.cell' (i := 1) rfl; have z2 := b0.cell' (i := 2) rfl; have y2 := b1.cell' (i := 2) rfl; have z3 := b0.cell' (i := 3) rfl; have y3 := b1.cell' (i := 3) rfl; have z4 := b0.cell' (i := 4) rfl; have y4 := b1.cell' (i := 4) rfl; have z5 := b0.cell' (i := 5) rfl; have y5 := b1.cell' (i := 5) rfl
      go_wp2_with (go_at_call 73; refine (r03newer_any _ _ _ _ _ _ _ _ _).mono ?_; rintro e w1 ⟨rfl, hbn⟩; replace b0 := b0.kept hbn; replace b1 := b1.kept hbn; replace hb0 := bt hb0 hbn; clear hbn; have z0 := b0.cell' (i := 0) rfl; have y0 := b1.cell' (i := 0) rfl; have z1 := b0.cell' (i := 1) rfl; have y1 := b1.cell' (i := 1) rfl; have z2 := b0.cell' (i := 2) rfl; have y2 := b1.cell' (i := 2) rfl; have z3 := b0.cell' (i := 3) rfl; have y3 := b1.cell' (i := 3) rfl; have z4 := b0.cell' (i := 4) rfl; have y4 := b1.cell' (i := 4) rfl; have z5 := b0.cell' (i := 5) rfl; have y5 := b1.cell' (i := 5) rfl)
      go_ret
      exact ⟨rfl, hb0⟩
    | false =>
      rw [Bool.false_or, if_neg (by simp)]
      by_cases h1 : xh < yh
      · have e : decide (cmpP xh xg yh yg < 0) = true := by simp [cmpP, orI, cmpI, h1]
        rw [e]
        clear e
        go_enter Try.func41, Try.ntmps41
        go_upto_region 1 with (fail)
        generalize (w.alloc (.cells #[.int .i64 xh, .int .i64 xg, .int .i64 xk, .int .i64 xp, .int .i64 xs, .int .i64 xt] 33)).alloc (.cells #[.int .i64 yh, .int .i64 yg, .int .i64 yk, .int .i64 yp, .int .i64 ys, .int .i64 yt] 33) = W0 at *
        have z0 := b0.cell' (i := 0) rfl; have y0 := b1.cell' (i := 0) rfl; have z1 := b0.cell' (i := 1) rfl; have y1 := b1.cell' (i := 1) rfl; have z2 := b0.cell' (i := 2) rfl; have y2 := b1.cell' (i := 2) rfl; have z3 := b0.cell' (i := 3) rfl; have y3 := b1.cell' (i := 3) rfl; have z4 := b0.cell' (i := 4) rfl; have y4 := b1.cell' (i := 4) rfl; have z5 := b0.cell' (i := 5) rfl; have y5 := b1.cell' (i := 5) rfl
        go_wp2_with (go_at_call 73; refine (r03newer_any _ _ _ _ _ _ _ _ _).mono ?_; rintro e w1 ⟨rfl, hbn⟩; replace b0 := b0.kept hbn; replace b1 := b1.kept hbn; replace hb0 := bt hb0 hbn; clear hbn; have z0 := b0.cell' (i := 0) rfl; have y0 := b1.cell' (i := 0) rfl; have z1 := b0.cell' (i := 1) rfl; have y1 := b1.cell' (i := 1) rfl; have z2 := b0.cell' (i := 2) rfl; have y2 := b1.cell' (i := 2) rfl; have z3 := b0.cell' (i := 3) rfl; have y3 := b1.cell' (i := 3) rfl; have z4 := b0.cell' (i := 4) rfl; have y4 := b1.cell' (i := 4) rfl; have z5 := b0.cell' (i := 5) rfl; have y5 := b1.cell' (i := 5) rfl)
        go_ret
        exact ⟨rfl, hb0⟩
      · by_cases h2 : xh = yh
        · subst h2
          have e : decide (cmpP xh xg xh yg < 0) = decide (xg < yg) := by
            simp only [cmpP, orI, cmpI, Int.lt_irrefl, if_false, if_true]
            by_cases h3 : xg < yg
            · simp [h3]
            · simp only [h3, if_false]
              split <;> simp
          rw [e]
          clear e
          go_enter Try.func41, Try.ntmps41
          go_upto_region 1 with (fail)
          generalize (w.alloc (.cells #[.int .i64 xh, .int .i64 xg, .int .i64 xk, .int .i64 xp, .int .i64 xs, .int .i64 xt] 33)).alloc (.cells #[.int .i64 xh, .int .i64 yg, .int .i64 yk, .int .i64 yp, .int .i64 ys, .int .i64 yt] 33) = W0 at *
          have z0 := b0.cell' (i := 0) rfl; have y0 := b1.cell' (i := 0) rfl; have z1 := b0.cell' (i := 1) rfl; have y1 := b1.cell' (i := 1) rfl; have z2 := b0.cell' (i := 2) rfl; have y2 := b1.cell' (i := 2) rfl; have z3 := b0.cell' (i := 3) rfl; have y3 := b1.cell' (i := 3) rfl; have z4 := b0.cell' (i := 4) rfl; have y4 := b1.cell' (i := 4) rfl; have z5 := b0.cell' (i := 5) rfl; have y5 := b1.cell' (i := 5) rfl
          go_wp2_with (go_at_call 73; refine (r03newer_any _ _ _ _ _ _ _ _ _).mono ?_; rintro e w1 ⟨rfl, hbn⟩; replace b0 := b0.kept hbn; replace b1 := b1.kept hbn; replace hb0 := bt hb0 hbn; clear hbn; have z0 := b0.cell' (i := 0) rfl; have y0 := b1.cell' (i := 0) rfl; have z1 := b0.cell' (i := 1) rfl; have y1 := b1.cell' (i := 1) rfl; have z2 := b0.cell' (i := 2) rfl; have y2 := b1.cell' (i := 2) rfl; have z3 := b0.cell' (i := 3) rfl; have y3 := b1.cell' (i := 3) rfl; have z4 := b0.cell' (i := 4) rfl; have y4 := b1.cell' (i := 4) rfl; have z5 := b0.cell' (i := 5) rfl; have y5 := b1.cell' (i := 5) rfl)
          go_ret
          exact ⟨rfl, hb0⟩
        · have e : decide (cmpP xh xg yh yg < 0) = false := by
            have h3 : yh < xh := by omega
            simp [cmpP, orI, cmpI, h1, h3]
          have hb : (xh == yh) = false := by rw [beq_eq_false_iff_ne]; exact h2
          have hd : decide (xh < yh) = false := by simpa using h1
          rw [e]
          clear e h2
          go_enter Try.func41, Try.ntmps41
          go_upto_region 1 with (fail)
          generalize (w.alloc (.cells #[.int .i64 xh, .int .i64 xg, .int .i64 xk, .int .i64 xp, .int .i64 xs, .int .i64 xt] 33)).alloc (.cells #[.int .i64 yh, .int .i64 yg, .int .i64 yk, .int .i64 yp, .int .i64 ys, .int .i64 yt] 33) = W0 at *
          have z0 := b0.cell' (i := 0) rfl; have y0 := b1.cell' (i := 0) rfl; have z1 := b0.cell' (i := 1) rfl; have y1 := b1.cell' (i := 1) rfl; have z2 := b0.cell' (i := 2) rfl; have y2 := b1.cell' (i := 2) rfl; have z3 := b0.cell' (i := 3) rfl; have y3 := b1.cell' (i := 3) rfl; have z4 := b0.cell' (i := 4) rfl; have y4 := b1.cell' (i := 4) rfl; have z5 := b0.cell' (i := 5) rfl; have y5 := b1.cell' (i := 5) rfl
          go_wp2_with (go_at_call 73; refine (r03newer_any _ _ _ _ _ _ _ _ _).mono ?_; rintro e w1 ⟨rfl, hbn⟩; replace b0 := b0.kept hbn; replace b1 := b1.kept hbn; replace hb0 := bt hb0 hbn; clear hbn; have z0 := b0.cell' (i := 0) rfl; have y0 := b1.cell' (i := 0) rfl; have z1 := b0.cell' (i := 1) rfl; have y1 := b1.cell' (i := 1) rfl; have z2 := b0.cell' (i := 2) rfl; have y2 := b1.cell' (i := 2) rfl; have z3 := b0.cell' (i := 3) rfl; have y3 := b1.cell' (i := 3) rfl; have z4 := b0.cell' (i := 4) rfl; have y4 := b1.cell' (i := 4) rfl; have z5 := b0.cell' (i := 5) rfl; have y5 := b1.cell' (i := 5) rfl)
          go_ret
          exact ⟨rfl, hb0⟩
set_option linter.unusedSimpArgs false in
set_option maxRecDepth 100000 in
set_option maxHeartbeats 4000000 in
theorem counts_any (P : Int) (x : Fd) (w : World) : Calls Try.prog 40 #[.int .i64 P, x.val] w fun e w' => e = .returned (.bool (cntB P x)) ∧ Below w.heap.size w w' := by
  obtain ⟨xh, xg, xk, xp, xs, xt⟩ := x
  dsimp only [Fd.val]
  have hb0 := below_alloc w (.cells #[.int .i64 xh, .int .i64 xg, .int .i64 xk, .int .i64 xp, .int .i64 xs, .int .i64 xt] 33)
  have b0 := Blk.new' w 33 #[.int .i64 xh, .int .i64 xg, .int .i64 xk, .int .i64 xp, .int .i64 xs, .int .i64 xt]
  cases hch : chkB xk xp xs xt with
  | false =>
    have hE : chkE xk xp xs xt = 30 := by simp [chkE, hch]
    have hq : cntB P ⟨xh, xg, xk, xp, xs, xt⟩ = false := by simp [cntB, hch]
    rw [hq]
    clear hq
    go_enter Try.func40, Try.ntmps40
    go_upto_region 1 with (fail)
    generalize w.alloc (.cells #[.int .i64 xh, .int .i64 xg, .int .i64 xk, .int .i64 xp, .int .i64 xs, .int .i64 xt] 33) = W0 at *
    have z0 := b0.cell' (i := 0) rfl; have z1 := b0.cell' (i := 1) rfl; have z2 := b0.cell' (i := 2) rfl; have z3 := b0.cell' (i := 3) rfl; have z4 := b0.cell' (i := 4) rfl; have z5 := b0.cell' (i := 5) rfl
    go_wp2_with (go_at_call 31; refine (r03check_any _ _ _ _ _).mono ?_; rintro e w1 ⟨rfl, hbn⟩; replace b0 := b0.kept hbn; replace hb0 := bt hb0 hbn; clear hbn; have z0 := b0.cell' (i := 0) rfl; have z1 := b0.cell' (i := 1) rfl; have z2 := b0.cell' (i := 2) rfl; have z3 := b0.cell' (i := 3) rfl; have z4 := b0.cell' (i := 4) rfl; have z5 := b0.cell' (i := 5) rfl)
    go_ret
    exact ⟨rfl, hb0⟩
  | true =>
    have hE : chkE xk xp xs xt = 0 := by simp [chkE, hch]
    by_cases h3 : xk = 3
    · have h4 : (xk != 3) = false := by rw [h3]; rfl
      have hq : cntB P ⟨xh, xg, xk, xp, xs, xt⟩ = false := by simp [cntB, h3]
      rw [hq]
      clear hq h3
      go_enter Try.func40, Try.ntmps40
      go_upto_region 1 with (fail)
      generalize w.alloc (.cells #[.int .i64 xh, .int .i64 xg, .int .i64 xk, .int .i64 xp, .int .i64 xs, .int .i64 xt] 33) = W0 at *
      have z0 := b0.cell' (i := 0) rfl; have z1 := b0.cell' (i := 1) rfl; have z2 := b0.cell' (i := 2) rfl; have z3 := b0.cell' (i := 3) rfl; have z4 := b0.cell' (i := 4) rfl; have z5 := b0.cell' (i := 5) rfl
      go_wp2_with (go_at_call 31; refine (r03check_any _ _ _ _ _).mono ?_; rintro e w1 ⟨rfl, hbn⟩; replace b0 := b0.kept hbn; replace hb0 := bt hb0 hbn; clear hbn; have z0 := b0.cell' (i := 0) rfl; have z1 := b0.cell' (i := 1) rfl; have z2 := b0.cell' (i := 2) rfl; have z3 := b0.cell' (i := 3) rfl; have z4 := b0.cell' (i := 4) rfl; have z5 := b0.cell' (i := 5) rfl)
      go_ret
      exact ⟨rfl, hb0⟩
    have h4 : (xk != 3) = true := by rw [bne_iff_ne]; exact h3
    have h4' : (xk == 3) = false := by rw [beq_eq_false_iff_ne]; exact h3
    by_cases h5 : xh < 0
    · have hq : cntB P ⟨xh, xg, xk, xp, xs, xt⟩ = false := by unfold cntB; simp only [on_no (P := P) (ph := xh) (pg := xg) (by omega), Bool.and_false]
      rw [hq]
      clear hq h3 h4'
      have hd : ¬ 0 ≤ xh := by omega
      go_enter Try.func40, Try.ntmps40
      go_upto_region 1 with (fail)
      generalize w.alloc (.cells #[.int .i64 xh, .int .i64 xg, .int .i64 xk, .int .i64 xp, .int .i64 xs, .int .i64 xt] 33) = W0 at *
      have z0 := b0.cell' (i := 0) rfl; have z1 := b0.cell' (i := 1) rfl; have z2 := b0.cell' (i := 2) rfl; have z3 := b0.cell' (i := 3) rfl; have z4 := b0.cell' (i := 4) rfl; have z5 := b0.cell' (i := 5) rfl
      go_wp2_with (go_at_call 31; refine (r03check_any _ _ _ _ _).mono ?_; rintro e w1 ⟨rfl, hbn⟩; replace b0 := b0.kept hbn; replace hb0 := bt hb0 hbn; clear hbn; have z0 := b0.cell' (i := 0) rfl; have z1 := b0.cell' (i := 1) rfl; have z2 := b0.cell' (i := 2) rfl; have z3 := b0.cell' (i := 3) rfl; have z4 := b0.cell' (i := 4) rfl; have z5 := b0.cell' (i := 5) rfl)
      go_ret
      exact ⟨rfl, hb0⟩
    by_cases h6 : 256 ≤ xh
    · have hq : cntB P ⟨xh, xg, xk, xp, xs, xt⟩ = false := by unfold cntB; simp only [on_no (P := P) (ph := xh) (pg := xg) (by omega), Bool.and_false]
      rw [hq]
      clear hq h3 h4'
      go_enter Try.func40, Try.ntmps40
      go_upto_region 1 with (fail)
      generalize w.alloc (.cells #[.int .i64 xh, .int .i64 xg, .int .i64 xk, .int .i64 xp, .int .i64 xs, .int .i64 xt] 33) = W0 at *
      have z0 := b0.cell' (i := 0) rfl; have z1 := b0.cell' (i := 1) rfl; have z2 := b0.cell' (i := 2) rfl; have z3 := b0.cell' (i := 3) rfl; have z4 := b0.cell' (i := 4) rfl; have z5 := b0.cell' (i := 5) rfl
      go_wp2_with (go_at_call 31; refine (r03check_any _ _ _ _ _).mono ?_; rintro e w1 ⟨rfl, hbn⟩; replace b0 := b0.kept hbn; replace hb0 := bt hb0 hbn; clear hbn; have z0 := b0.cell' (i := 0) rfl; have z1 := b0.cell' (i := 1) rfl; have z2 := b0.cell' (i := 2) rfl; have z3 := b0.cell' (i := 3) rfl; have z4 := b0.cell' (i := 4) rfl; have z5 := b0.cell' (i := 5) rfl)
      go_ret
      exact ⟨rfl, hb0⟩
    by_cases h7 : xg < 0
    · have hq : cntB P ⟨xh, xg, xk, xp, xs, xt⟩ = false := by unfold cntB; simp only [on_no (P := P) (ph := xh) (pg := xg) (by omega), Bool.and_false]
      rw [hq]
      clear hq h3 h4'
      have hd : ¬ 0 ≤ xg := by omega
      go_enter Try.func40, Try.ntmps40
      go_upto_region 1 with (fail)
      generalize w.alloc (.cells #[.int .i64 xh, .int .i64 xg, .int .i64 xk, .int .i64 xp, .int .i64 xs, .int .i64 xt] 33) = W0 at *
      have z0 := b0.cell' (i := 0) rfl; have z1 := b0.cell' (i := 1) rfl; have z2 := b0.cell' (i := 2) rfl; have z3 := b0.cell' (i := 3) rfl; have z4 := b0.cell' (i := 4) rfl; have z5 := b0.cell' (i := 5) rfl
      go_wp2_with (go_at_call 31; refine (r03check_any _ _ _ _ _).mono ?_; rintro e w1 ⟨rfl, hbn⟩; replace b0 := b0.kept hbn; replace hb0 := bt hb0 hbn; clear hbn; have z0 := b0.cell' (i := 0) rfl; have z1 := b0.cell' (i := 1) rfl; have z2 := b0.cell' (i := 2) rfl; have z3 := b0.cell' (i := 3) rfl; have z4 := b0.cell' (i := 4) rfl; have z5 := b0.cell' (i := 5) rfl)
      go_ret
      exact ⟨rfl, hb0⟩
    by_cases h8 : P ≤ xg
    · have hq : cntB P ⟨xh, xg, xk, xp, xs, xt⟩ = false := by unfold cntB; simp only [on_no (P := P) (ph := xh) (pg := xg) (by omega), Bool.and_false]
      rw [hq]
      clear hq h3 h4'
      have hd : decide (xg < P) = false := by simpa using h8
      go_enter Try.func40, Try.ntmps40
      go_upto_region 1 with (fail)
      generalize w.alloc (.cells #[.int .i64 xh, .int .i64 xg, .int .i64 xk, .int .i64 xp, .int .i64 xs, .int .i64 xt] 33) = W0 at *
      have z0 := b0.cell' (i := 0) rfl; have z1 := b0.cell' (i := 1) rfl; have z2 := b0.cell' (i := 2) rfl; have z3 := b0.cell' (i := 3) rfl; have z4 := b0.cell' (i := 4) rfl; have z5 := b0.cell' (i := 5) rfl
      go_wp2_with (go_at_call 31; refine (r03check_any _ _ _ _ _).mono ?_; rintro e w1 ⟨rfl, hbn⟩; replace b0 := b0.kept hbn; replace hb0 := bt hb0 hbn; clear hbn; have z0 := b0.cell' (i := 0) rfl; have z1 := b0.cell' (i := 1) rfl; have z2 := b0.cell' (i := 2) rfl; have z3 := b0.cell' (i := 3) rfl; have z4 := b0.cell' (i := 4) rfl; have z5 := b0.cell' (i := 5) rfl)
      go_ret
      exact ⟨rfl, hb0⟩
    have hq : cntB P ⟨xh, xg, xk, xp, xs, xt⟩ = true := by unfold cntB; simp only [on_yes (P := P) (ph := xh) (pg := xg) (by omega), hch, h4']; rfl
    rw [hq]
    clear hq h3 h4'
    have hd : decide (xg < P) = true := by simp; omega
    go_enter Try.func40, Try.ntmps40
    go_upto_region 1 with (fail)
    generalize w.alloc (.cells #[.int .i64 xh, .int .i64 xg, .int .i64 xk, .int .i64 xp, .int .i64 xs, .int .i64 xt] 33) = W0 at *
    have z0 := b0.cell' (i := 0) rfl; have z1 := b0.cell' (i := 1) rfl; have z2 := b0.cell' (i := 2) rfl; have z3 := b0.cell' (i := 3) rfl; have z4 := b0.cell' (i := 4) rfl; have z5 := b0.cell' (i := 5) rfl
    go_wp2_with (go_at_call 31; refine (r03check_any _ _ _ _ _).mono ?_; rintro e w1 ⟨rfl, hbn⟩; replace b0 := b0.kept hbn; replace hb0 := bt hb0 hbn; clear hbn; have z0 := b0.cell' (i := 0) rfl; have z1 := b0.cell' (i := 1) rfl; have z2 := b0.cell' (i := 2) rfl; have z3 := b0.cell' (i := 3) rfl; have z4 := b0.cell' (i := 4) rfl; have z5 := b0.cell' (i := 5) rfl)
    go_ret
    exact ⟨rfl, hb0⟩
set_option maxHeartbeats 2000000 in
theorem r07great_any (p : Option Addr) (n c : Nat) (xs : List Fd) (w : World) (hx : InF w p n c xs) :
    Calls Try.prog 18 #[.slice p n c] w fun e w' => e = .returned (.int .i64 (greatL xs)) ∧ Below w.heap.size w w' := by
  have hroom := hx.room
  have HL : Hid (xs.length = n) := hx.len
  go_enter Try.func18, Try.ntmps18
  go_wp2
  go_loopw [3, 4] (fun gr i wr => ∃ k : Nat, k ≤ n ∧ i = .int .i64 k ∧ gr = .int .i64 (greatL (xs.take k)) ∧ Below w.heap.size w wr) (fun _ i _ => n - (intOf i).toNat)
  case atStart => exact ⟨0, Nat.zero_le _, rfl, rfl, Below.refl _ _⟩
  case round =>
    obtain ⟨k, hk, rfl, rfl, hbk⟩ := hrel
    by_cases hlt : k < n
    · obtain ⟨b, o, rfl, hbl, hc⟩ := (hx.below hbk).at' (by omega)
      obtain ⟨e0, e1, e2, e3, e4, e5⟩ := hc k hlt
      have hxl : k < xs.length := by rw [HL.out]; exact hlt
      have HU : Hid (greatL (xs.take (k + 1)) = if chkB (eF xs k).k (eF xs k).p (eF xs k).s (eF xs k).t then max (greatL (xs.take k)) (eF xs k).t else greatL (xs.take k)) := by
        show _ = _
        rw [takeF_succ xs k hxl, greatL_snoc]
      generalize eF xs k = x at *
      generalize greatL (xs.take k) = G at *
      obtain ⟨xh, xg, xk, xp, xs', xt⟩ := x
      dsimp only at e0 e1 e2 e3 e4 e5 HU
      clear hc
      cases hch : chkB xk xp xs' xt with
      | false =>
        have hE : chkE xk xp xs' xt = 30 := by simp [chkE, hch]
        rw [hch] at HU
        go_wp2_with (go_at_call 31; refine (r03check_any _ _ _ _ _).mono ?_; rintro e w1 ⟨rfl, hb1⟩; have t1 := bt hbk hb1; have hcw := fun j => hb1.cell (p := ⟨b, j, none⟩) hbl; have z3 := (hcw _).trans e3; have z5 := (hcw _).trans e5; clear hb1 hcw)
        go_roundw
        case rel => exact ⟨k + 1, by omega, by go_num, by rw [HU.out]; rfl, t1⟩
        case measure => simp [intOf]; omega
      | true =>
        have hE : chkE xk xp xs' xt = 0 := by simp [chkE, hch]
        rw [hch] at HU
        go_wp2_with (go_at_call 31; refine (r03check_any _ _ _ _ _).mono ?_; rintro e w1 ⟨rfl, hb1⟩; have t1 := bt hbk hb1; have hcw := fun j => hb1.cell (p := ⟨b, j, none⟩) hbl; have z3 := (hcw _).trans e3; have z5 := (hcw _).trans e5; clear hb1 hcw)
        go_roundw
        case rel => exact ⟨k + 1, by omega, by go_num, by rw [HU.out]; rfl, t1⟩
        case measure => simp [intOf]; omega
    · obtain rfl : k = n := by omega
      rw [List.take_of_length_le (by rw [HL.out]; exact Nat.le_refl _)]
      go_wp2
      go_ret
      exact ⟨rfl, hbk⟩
end Go.Proofs.Ytfgelncfmopibaa
