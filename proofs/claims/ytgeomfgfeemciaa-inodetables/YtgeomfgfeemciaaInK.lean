/-
  What inode.rootMayBe, kindMayBe and Check answer.
-/
import Derived.Test.YtgeomfgfeemciaaInB
namespace Go.Proofs.Ytgeomfgfeemciaa
open Go.RowKit
set_option linter.unusedSimpArgs false in
set_option linter.unusedVariables false in
set_option maxRecDepth 100000 in
set_option maxHeartbeats 4000000 in
theorem root_any (x : Ino) (p : Option Addr) (n c : Nat) (w : World) (hx : InE w p n c x.rt) : Calls Try.prog 38 #[x.val p n c] w fun e w' => e = .returned (.bool (rootB x)) ∧ Below w.heap.size w w' := by
  obtain ⟨kd, lk, sz, nx, ge, dp, rt⟩ := x
  dsimp only at hx
  have HL : Hid (rt.length = n) := hx.len
  have hb0 := below_alloc w (.cells #[.int .i64 kd, .int .i64 lk, .int .i64 sz, .int .i64 nx, .int .i64 ge, .int .i64 dp, .slice p n c] 24)
  have hx1 := hx.below hb0
  by_cases h4 : 4 < n
  · have HE : Hid (rootB ⟨kd, lk, sz, nx, ge, dp, rt⟩ = false) := by show _ = _; unfold rootB; dsimp only; rw [HL.out, show decide (n ≤ 4) = false from by rw [decide_eq_false_iff_not]; omega]; rfl
    have h4' : (n : Int) > 4 := by omega
    go_enter Try.func38, Try.ntmps38
    go_wp2
    go_ret
    exact ⟨ret_bool HE.out.symm, hb0⟩
  · have h4' : ¬ (n : Int) > 4 := by omega
    by_cases hd : dp = 0
    · subst hd
      have HE : Hid (rootB ⟨kd, lk, sz, nx, ge, 0, rt⟩ = chkB rt) := by show _ = _; unfold rootB; dsimp only; rw [HL.out, show decide (n ≤ 4) = true from by rw [decide_eq_true_eq]; omega, if_pos rfl]; rfl
      go_enter Try.func38, Try.ntmps38
      go_wp2_with fail
      refine (check_any p n c rt _ hx1).mono ?_
      rintro e w1 ⟨rfl, hb1⟩
      cases hc : chkB rt with
      | true =>
        have HC : Hid _ := hc
        rw [chkE_ok hc]
        clear hc
        go_wp2
        go_ret
        exact ⟨ret_bool (HE.out.trans HC.out).symm, bt hb0 hb1⟩
      | false =>
        have HC : Hid _ := hc
        rw [chkE_no hc]
        clear hc
        go_wp2
        go_ret
        exact ⟨ret_bool (HE.out.trans HC.out).symm, bt hb0 hb1⟩
    · have hd' : (dp == 0) = false := by rw [beq_eq_false_iff_ne]; exact hd
      have HE : Hid (rootB ⟨kd, lk, sz, nx, ge, dp, rt⟩ = (decide (0 < n) && entsB rt)) := by show _ = _; unfold rootB; dsimp only; rw [HL.out, show decide (n ≤ 4) = true from by rw [decide_eq_true_eq]; omega, if_neg hd]; rfl
      clear hd
      rcases Nat.eq_zero_or_pos n with h0 | h0
      · have HE2 : Hid (rootB ⟨kd, lk, sz, nx, ge, dp, rt⟩ = false) := by show _ = _; rw [HE.out, h0]; rfl
        have h0' : ¬ 0 < n := by omega
        clear h0 HE
        go_enter Try.func38, Try.ntmps38
        go_wp2
        go_ret
        exact ⟨ret_bool HE2.out.symm, hb0⟩
      · have HE2 : Hid (rootB ⟨kd, lk, sz, nx, ge, dp, rt⟩ = entsB rt) := by show _ = _; rw [HE.out, show decide (0 < n) = true from by rw [decide_eq_true_eq]; exact h0]; rfl
        have h0' : (n : Int) > 0 := by omega
        clear HE
        go_enter Try.func38, Try.ntmps38
        go_wp2_with fail
        refine (entries_any p n c rt _ hx1).mono ?_
        rintro e w1 ⟨rfl, hb1⟩
        cases hc : entsB rt <;> go_wp2 <;> go_ret <;> exact ⟨ret_bool (HE2.out.trans hc).symm, bt hb0 hb1⟩
set_option linter.unusedSimpArgs false in
set_option linter.unusedVariables false in
set_option maxRecDepth 100000 in
set_option maxHeartbeats 4000000 in
theorem kind_any (x : Ino) (p : Option Addr) (n c : Nat) (w : World) (hx : InE w p n c x.rt) (hn : numB x = true) : Calls Try.prog 39 #[x.val p n c] w fun e w' => e = .returned (.bool (kindB x)) ∧ Below w.heap.size w w' := by
  obtain ⟨kd, lk, sz, nx, ge, dp, rt⟩ := x
  have hq := numB_iff.1 hn
  dsimp only at hx hq
  obtain ⟨_, hs, _, hge, _⟩ := hq
  have hg : inB ge 0 4294967295 = true := inB_iff.2 hge
  have HL : Hid (rt.length = n) := hx.len
  have hb0 := below_alloc w (.cells #[.int .i64 kd, .int .i64 lk, .int .i64 sz, .int .i64 nx, .int .i64 ge, .int .i64 dp, .slice p n c] 24)
  have hx1 := hx.below hb0
  have r0 := Blk.new' w 24 #[.int .i64 kd, .int .i64 lk, .int .i64 sz, .int .i64 nx, .int .i64 ge, .int .i64 dp, .slice p n c]
  clear hn hge
  by_cases k0 : kd = 0
  · subst k0
    have HE : Hid (kindB ⟨0, lk, sz, nx, ge, dp, rt⟩ = sameB ⟨0, lk, sz, nx, ge, dp, rt⟩ ⟨0, 0, 0, 0, ge, 0, []⟩) := by
      show _ = _
      unfold kindB zeroB sameB
      dsimp only
      rw [if_pos rfl, Bool.eq_iff_iff]
      simp only [Bool.and_eq_true, eqEB_iff, beq_iff_eq, List.length_eq_zero_iff, and_true, true_and]
    go_enter Try.func39, Try.ntmps39
    go_upto_region 3 with fail
    generalize w.alloc (.cells #[.int .i64 0, .int .i64 lk, .int .i64 sz, .int .i64 nx, .int .i64 ge, .int .i64 dp, .slice p n c] 24) = V at *
    refine wp_region_noPanic ?_
    refine wp_region_held_drew (S := (fun X => Below V.heap.size V X)) (by kernel_rfl) (below_drewN (Below.refl _ _) 1) (fun hHeld => ?_)
    refine wpAnyH_take (i := 0) (v := ?_) rfl (by kernel_rfl) (by kernel_rfl) (by kernel_rfl) (fun _ _ _ h => h) (Or.inl ⟨by rfl, ?_⟩) hHeld ?_
    rotate_left
    · intro w' hSw; try dsimp only at hSw
      have r1 := r0.kept hSw
      have d0 := r1.cell' (i := 0) rfl
      have d1 := r1.cell' (i := 1) rfl
      have d2 := r1.cell' (i := 2) rfl
      have d3 := r1.cell' (i := 3) rfl
      have d4 := r1.cell' (i := 4) rfl
      have d5 := r1.cell' (i := 5) rfl
      have d6 := r1.cell' (i := 6) rfl
      go_simp; try (with_reducible rfl)
    try simp only [Act.put, List.getElem_toArray, List.getElem_cons_succ, List.getElem_cons_zero, List.setIfInBounds_toArray, List.set_cons_zero, List.set_cons_succ]
    refine wpAnyH_take (i := 1) (v := ?_) rfl (by kernel_rfl) (by kernel_rfl) (by kernel_rfl) (fun _ _ _ h => h) (Or.inl ⟨by rfl, ?_⟩) hHeld ?_
    rotate_left
    · intro w' hSw; try dsimp only at hSw
      go_simp; try (with_reducible rfl)
    try simp only [Act.put, List.getElem_toArray, List.getElem_cons_succ, List.getElem_cons_zero, List.setIfInBounds_toArray, List.set_cons_zero, List.set_cons_succ]
    refine wpAnyH_take (i := 2) (v := ?_) rfl (by kernel_rfl) (by kernel_rfl) (by kernel_rfl) (fun _ _ _ h => h) (Or.inl ⟨by rfl, ?_⟩) hHeld ?_
    rotate_left
    · intro w' hSw; try dsimp only at hSw
      have r1 := r0.kept hSw
      have d0 := r1.cell' (i := 0) rfl
      have d1 := r1.cell' (i := 1) rfl
      have d2 := r1.cell' (i := 2) rfl
      have d3 := r1.cell' (i := 3) rfl
      have d4 := r1.cell' (i := 4) rfl
      have d5 := r1.cell' (i := 5) rfl
      have d6 := r1.cell' (i := 6) rfl
      go_simp; try (with_reducible rfl)
    try simp only [Act.put, List.getElem_toArray, List.getElem_cons_succ, List.getElem_cons_zero, List.setIfInBounds_toArray, List.set_cons_zero, List.set_cons_succ]
    refine wpAnyH_ready (rs := [3]) (by kernel_rfl) (by simp) ?_
    refine AllReadyH.cons rfl (fun K hK => ?_) AllReadyH.nil
    go_simp
    refine (free_any ge _).mono ?_
    rintro e w2 ⟨rfl, hb2⟩
    rw [hg, if_pos rfl]
    have hS2 := bt hHeld hb2
    refine hK.out _ _ hS2 (fun hHeld => ?_)
    clear hK K
    try simp only [Act.put, List.getElem_toArray, List.getElem_cons_succ, List.getElem_cons_zero, List.setIfInBounds_toArray, List.set_cons_zero, List.set_cons_succ]
    refine wpAnyH_ready (rs := [4]) (by kernel_rfl) (by simp) ?_
    refine AllReadyH.cons rfl (fun K hK => ?_) AllReadyH.nil
    go_simp
    refine (same_any ⟨0, lk, sz, nx, ge, dp, rt⟩ ⟨0, 0, 0, 0, ge, 0, []⟩ p none n c 0 0 _ (hx1.below hHeld) (InE.empty _)).mono ?_
    rintro e w3 ⟨rfl, hb3⟩
    have hS3 := bt hHeld hb3
    refine hK.out _ _ hS3 (fun hHeld => ?_)
    clear hK K
    try simp only [Act.put, List.getElem_toArray, List.getElem_cons_succ, List.getElem_cons_zero, List.setIfInBounds_toArray, List.set_cons_zero, List.set_cons_succ]
    refine wpAnyH_take (i := 5) (v := ?_) rfl (by kernel_rfl) (by kernel_rfl) (by kernel_rfl) (fun _ _ _ h => h) (Or.inl ⟨by rfl, ?_⟩) hHeld ?_
    rotate_left
    · intro w' hSw; try dsimp only at hSw
      go_simp; try (with_reducible rfl)
    try simp only [Act.put, List.getElem_toArray, List.getElem_cons_succ, List.getElem_cons_zero, List.setIfInBounds_toArray, List.set_cons_zero, List.set_cons_succ]
    refine wpAnyH_done (by kernel_rfl) ?_ _
    refine NoPanic.normal ?_
    go_wp2
    go_ret
    exact ⟨ret_bool HE.out.symm, bt hb0 hHeld⟩
  · have y0 : (kd == 0) = false := by rw [beq_eq_false_iff_ne]; exact k0
    by_cases k1 : kd = 1
    · subst k1
      have HE : Hid (kindB ⟨1, lk, sz, nx, ge, dp, rt⟩ = true) := rfl
      go_enter Try.func39, Try.ntmps39
      go_wp2
      go_ret
      exact ⟨ret_bool HE.out.symm, hb0⟩
    · have y1 : (kd == 1) = false := by rw [beq_eq_false_iff_ne]; exact k1
      by_cases k2 : kd = 2
      · subst k2
        have HE : Hid (kindB ⟨2, lk, sz, nx, ge, dp, rt⟩ = (sz % 256 == 0)) := rfl
        have hs0 := hs.1
        have hs1 := hs.2
        go_enter Try.func39, Try.ntmps39
        go_wp2
        go_ret
        exact ⟨ret_bool HE.out.symm, hb0⟩
      · have y2 : (kd == 2) = false := by rw [beq_eq_false_iff_ne]; exact k2
        have HE : Hid (kindB ⟨kd, lk, sz, nx, ge, dp, rt⟩ = false) := by show _ = _; unfold kindB; dsimp only; rw [if_neg k0, if_neg k1, if_neg k2]
        clear k0 k1 k2
        go_enter Try.func39, Try.ntmps39
        go_wp2
        go_ret
        exact ⟨ret_bool HE.out.symm, hb0⟩
set_option linter.unusedSimpArgs false in
set_option linter.unusedVariables false in
set_option maxRecDepth 100000 in
set_option maxHeartbeats 4000000 in
theorem icheck_any (x : Ino) (p : Option Addr) (n c : Nat) (w : World) (hx : InE w p n c x.rt) : Calls Try.prog 14 #[x.val p n c] w fun e w' => e = .returned (.int .i64 (inoE x)) ∧ Below w.heap.size w w' := by
  obtain ⟨kd, lk, sz, nx, ge, dp, rt⟩ := x
  have hb0 := below_alloc w (.cells #[.int .i64 kd, .int .i64 lk, .int .i64 sz, .int .i64 nx, .int .i64 ge, .int .i64 dp, .slice p n c] 24)
  have hx1 := hx.below hb0
  have r0 := Blk.new' w 24 #[.int .i64 kd, .int .i64 lk, .int .i64 sz, .int .i64 nx, .int .i64 ge, .int .i64 dp, .slice p n c]
  dsimp only at hx1 hx
  cases h1 : numB ⟨kd, lk, sz, nx, ge, dp, rt⟩ with
  | false =>
    have HE : Hid (inoE ⟨kd, lk, sz, nx, ge, dp, rt⟩ = 140) := inoE_no (by unfold inoB; rw [h1]; rfl)
    go_enter Try.func14, Try.ntmps14
    go_wp2_with fail
    refine (numbers_any ⟨kd, lk, sz, nx, ge, dp, rt⟩ p n c _).mono ?_
    rintro e w1 ⟨rfl, hb1⟩
    rw [h1]
    have r1 := r0.kept hb1
    go_wp2
    go_ret
    exact ⟨ret_int HE.out.symm, bt hb0 hb1⟩
  | true =>
    cases h2 : rootB ⟨kd, lk, sz, nx, ge, dp, rt⟩ with
    | false =>
      have HE : Hid (inoE ⟨kd, lk, sz, nx, ge, dp, rt⟩ = 140) := inoE_no (by unfold inoB; rw [h1, h2]; rfl)
      go_enter Try.func14, Try.ntmps14
      go_wp2_with fail
      refine (numbers_any ⟨kd, lk, sz, nx, ge, dp, rt⟩ p n c _).mono ?_
      rintro e w1 ⟨rfl, hb1⟩
      rw [h1]
      have r1 := r0.kept hb1
      have hx2 := hx1.below hb1
      have c1 := fun i v (h : [Value.int .i64 kd, .int .i64 lk, .int .i64 sz, .int .i64 nx, .int .i64 ge, .int .i64 dp, .slice p n c][i]? = some v) => r1.cell' h
      have d0 := c1 0 _ rfl
      have d1 := c1 1 _ rfl
      have d2 := c1 2 _ rfl
      have d3 := c1 3 _ rfl
      have d4 := c1 4 _ rfl
      have d5 := c1 5 _ rfl
      have d6 := c1 6 _ rfl
      clear c1
      go_wp2_with fail
      refine (root_any ⟨kd, lk, sz, nx, ge, dp, rt⟩ p n c _ hx2).mono ?_
      rintro e w2 ⟨rfl, hb2⟩
      rw [h2]
      go_wp2
      go_ret
      exact ⟨ret_int HE.out.symm, bt (bt hb0 hb1) hb2⟩
    | true =>
      cases h3 : kindB ⟨kd, lk, sz, nx, ge, dp, rt⟩ with
      | false =>
        have HE : Hid (inoE ⟨kd, lk, sz, nx, ge, dp, rt⟩ = 140) := inoE_no (by unfold inoB; rw [h1, h2, h3]; rfl)
        go_enter Try.func14, Try.ntmps14
        go_wp2_with fail
        refine (numbers_any ⟨kd, lk, sz, nx, ge, dp, rt⟩ p n c _).mono ?_
        rintro e w1 ⟨rfl, hb1⟩
        rw [h1]
        have r1 := r0.kept hb1
        have hx2 := hx1.below hb1
        have c1 := fun i v (h : [Value.int .i64 kd, .int .i64 lk, .int .i64 sz, .int .i64 nx, .int .i64 ge, .int .i64 dp, .slice p n c][i]? = some v) => r1.cell' h
        have d0 := c1 0 _ rfl
        have d1 := c1 1 _ rfl
        have d2 := c1 2 _ rfl
        have d3 := c1 3 _ rfl
        have d4 := c1 4 _ rfl
        have d5 := c1 5 _ rfl
        have d6 := c1 6 _ rfl
        clear c1
        go_wp2_with fail
        refine (root_any ⟨kd, lk, sz, nx, ge, dp, rt⟩ p n c _ hx2).mono ?_
        rintro e w2 ⟨rfl, hb2⟩
        rw [h2]
        have r2 := r1.kept hb2
        have hx3 := hx2.below hb2
        have c2 := fun i v (h : [Value.int .i64 kd, .int .i64 lk, .int .i64 sz, .int .i64 nx, .int .i64 ge, .int .i64 dp, .slice p n c][i]? = some v) => r2.cell' h
        have d0 := c2 0 _ rfl
        have d1 := c2 1 _ rfl
        have d2 := c2 2 _ rfl
        have d3 := c2 3 _ rfl
        have d4 := c2 4 _ rfl
        have d5 := c2 5 _ rfl
        have d6 := c2 6 _ rfl
        clear c2
        go_wp2_with fail
        refine (kind_any ⟨kd, lk, sz, nx, ge, dp, rt⟩ p n c _ hx3 h1).mono ?_
        rintro e w3 ⟨rfl, hb3⟩
        rw [h3]
        go_wp2
        go_ret
        exact ⟨ret_int HE.out.symm, bt (bt (bt hb0 hb1) hb2) hb3⟩
      | true =>
        have HE : Hid (inoE ⟨kd, lk, sz, nx, ge, dp, rt⟩ = 0) := inoE_ok (by unfold inoB; rw [h1, h2, h3]; rfl)
        go_enter Try.func14, Try.ntmps14
        go_wp2_with fail
        refine (numbers_any ⟨kd, lk, sz, nx, ge, dp, rt⟩ p n c _).mono ?_
        rintro e w1 ⟨rfl, hb1⟩
        rw [h1]
        have r1 := r0.kept hb1
        have hx2 := hx1.below hb1
        have c1 := fun i v (h : [Value.int .i64 kd, .int .i64 lk, .int .i64 sz, .int .i64 nx, .int .i64 ge, .int .i64 dp, .slice p n c][i]? = some v) => r1.cell' h
        have d0 := c1 0 _ rfl
        have d1 := c1 1 _ rfl
        have d2 := c1 2 _ rfl
        have d3 := c1 3 _ rfl
        have d4 := c1 4 _ rfl
        have d5 := c1 5 _ rfl
        have d6 := c1 6 _ rfl
        clear c1
        go_wp2_with fail
        refine (root_any ⟨kd, lk, sz, nx, ge, dp, rt⟩ p n c _ hx2).mono ?_
        rintro e w2 ⟨rfl, hb2⟩
        rw [h2]
        have r2 := r1.kept hb2
        have hx3 := hx2.below hb2
        have c2 := fun i v (h : [Value.int .i64 kd, .int .i64 lk, .int .i64 sz, .int .i64 nx, .int .i64 ge, .int .i64 dp, .slice p n c][i]? = some v) => r2.cell' h
        have d0 := c2 0 _ rfl
        have d1 := c2 1 _ rfl
        have d2 := c2 2 _ rfl
        have d3 := c2 3 _ rfl
        have d4 := c2 4 _ rfl
        have d5 := c2 5 _ rfl
        have d6 := c2 6 _ rfl
        clear c2
        go_wp2_with fail
        refine (kind_any ⟨kd, lk, sz, nx, ge, dp, rt⟩ p n c _ hx3 h1).mono ?_
        rintro e w3 ⟨rfl, hb3⟩
        rw [h3]
        go_wp2
        go_ret
        exact ⟨ret_int HE.out.symm, bt (bt (bt hb0 hb1) hb2) hb3⟩
end Go.Proofs.Ytgeomfgfeemciaa
