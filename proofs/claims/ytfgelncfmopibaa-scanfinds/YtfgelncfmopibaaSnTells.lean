/-
  What page.Newer, page.Check, and what scan holds places and things that were found against each other with, answer.
-/
import Derived.Test.YtfgelncfmopibaaSnBase
namespace Go.Proofs.Ytfgelncfmopibaa
open Go.RowKit
theorem gnewer_any (k g s t k' g' s' t' : Int) (w : World) :
    Calls Try.prog 71 #[.agg #[.int .i64 k, .int .i64 g, .int .i64 s, .int .i64 t], .agg #[.int .i64 k', .int .i64 g', .int .i64 s', .int .i64 t']] w fun e w' => e = .returned (.bool (newB s t s' t')) ∧ Below w.heap.size w w' := by
  by_cases h : s = s'
  · subst h
    have e : newB s t s t' = decide (t < t') := by simp [newB]
    rw [e]
    clear e
    go_enter Try.func71, Try.ntmps71
    go_wp2
    go_ret
    exact ⟨rfl, bt (below_alloc w _) (below_alloc _ _)⟩
  · have e : newB s t s' t' = decide (s' < s) := by simp [newB, h]
    rw [e]
    clear e
    have hb : (s != s') = true := by rw [bne_iff_ne]; exact h
    clear h
    go_enter Try.func71, Try.ntmps71
    go_wp2
    go_ret
    exact ⟨rfl, bt (below_alloc w _) (below_alloc _ _)⟩
/-- 30 is ErrHeader. -/
def chkE (k g s t : Int) : Int := if chkB k g s t then 0 else 30
theorem chk_no {k g s t : Int} (h : ¬ (1 ≤ k ∧ k ≤ 3 ∧ 0 ≤ g ∧ g < 1048576 ∧ 1 ≤ s ∧ s ≤ 1152921504606846976 ∧ s ≤ t ∧ t ≤ 1152921504606846976 ∧ (k = 1 ∨ t = s))) : chkE k g s t = 30 := by
  unfold chkE chkB; rw [if_neg (by simpa using h)]
theorem chk_ok {k g s t : Int} (h : 1 ≤ k ∧ k ≤ 3 ∧ 0 ≤ g ∧ g < 1048576 ∧ 1 ≤ s ∧ s ≤ 1152921504606846976 ∧ s ≤ t ∧ t ≤ 1152921504606846976 ∧ (k = 1 ∨ t = s)) : chkE k g s t = 0 := by
  unfold chkE chkB; rw [if_pos (by simpa using h)]
theorem gcheck_any (k g s t : Int) (w : World) :
    Calls Try.prog 42 #[.agg #[.int .i64 k, .int .i64 g, .int .i64 s, .int .i64 t]] w fun e w' => e = .returned (.int .i64 (chkE k g s t)) ∧ Below w.heap.size w w' := by
  by_cases h1 : k < 1
  · rw [chk_no (by omega)]
    go_enter Try.func42, Try.ntmps42
    go_wp2
    go_ret
    exact ⟨rfl, below_alloc _ _⟩
  by_cases h2 : 3 < k
  · rw [chk_no (by omega)]
    go_enter Try.func42, Try.ntmps42
    go_wp2
    go_ret
    exact ⟨rfl, below_alloc _ _⟩
  by_cases h3 : g < 0
  · rw [chk_no (by omega)]
    go_enter Try.func42, Try.ntmps42
    go_wp2
    go_ret
    exact ⟨rfl, below_alloc _ _⟩
  by_cases h4 : 1048576 ≤ g
  · rw [chk_no (by omega)]
    go_enter Try.func42, Try.ntmps42
    go_wp2
    go_ret
    exact ⟨rfl, below_alloc _ _⟩
  by_cases h5 : s < 1
  · rw [chk_no (by omega)]
    go_enter Try.func42, Try.ntmps42
    go_wp2
    go_ret
    exact ⟨rfl, below_alloc _ _⟩
  by_cases h6 : 1152921504606846976 < s
  · rw [chk_no (by omega)]
    go_enter Try.func42, Try.ntmps42
    go_wp2
    go_ret
    exact ⟨rfl, below_alloc _ _⟩
  by_cases h7 : t < s
  · rw [chk_no (by omega)]
    go_enter Try.func42, Try.ntmps42
    go_wp2
    go_ret
    exact ⟨rfl, below_alloc _ _⟩
  by_cases h8 : 1152921504606846976 < t
  · rw [chk_no (by omega)]
    go_enter Try.func42, Try.ntmps42
    go_wp2
    go_ret
    exact ⟨rfl, below_alloc _ _⟩
  by_cases h9 : k = 1
  · have hb : (k != 1) = false := by rw [h9]; rfl
    rw [chk_ok (by omega)]
    clear h9
    go_enter Try.func42, Try.ntmps42
    go_wp2
    go_ret
    exact ⟨rfl, below_alloc _ _⟩
  have hb : (k != 1) = true := by rw [bne_iff_ne]; exact h9
  by_cases h10 : t = s
  · have hc : (t != s) = false := by rw [h10]; simp
    rw [chk_ok (by omega)]
    clear h9 h10
    go_enter Try.func42, Try.ntmps42
    go_wp2
    go_ret
    exact ⟨rfl, below_alloc _ _⟩
  · have hc : (t != s) = true := by rw [bne_iff_ne]; exact h10
    rw [chk_no (by omega)]
    clear h9 h10
    go_enter Try.func42, Try.ntmps42
    go_wp2
    go_ret
    exact ⟨rfl, below_alloc _ _⟩
theorem on_no {P ph pg : Int} (h : ¬ (0 ≤ ph ∧ ph < 256 ∧ 0 ≤ pg ∧ pg < P)) : onB P ph pg = false := by simpa [onB] using h
theorem on_yes {P ph pg : Int} (h : 0 ≤ ph ∧ ph < 256 ∧ 0 ≤ pg ∧ pg < P) : onB P ph pg = true := by simpa [onB] using h
theorem isOn_any (P ph pg : Int) (w : World) : Calls Try.prog 70 #[.int .i64 P, .agg #[.int .i64 ph, .int .i64 pg]] w fun e w' => e = .returned (.bool (onB P ph pg)) ∧ Below w.heap.size w w' := by
  by_cases h0 : ph < 0
  · rw [on_no (by omega)]
    go_enter Try.func70, Try.ntmps70
    go_wp2
    go_ret
    exact ⟨rfl, below_alloc _ _⟩
  by_cases h1 : 256 ≤ ph
  · rw [on_no (by omega)]
    go_enter Try.func70, Try.ntmps70
    go_wp2
    go_ret
    exact ⟨rfl, below_alloc _ _⟩
  by_cases h2 : pg < 0
  · rw [on_no (by omega)]
    go_enter Try.func70, Try.ntmps70
    go_wp2
    go_ret
    exact ⟨rfl, below_alloc _ _⟩
  by_cases h4 : pg < P
  · rw [on_yes (by omega)]
    have hd : decide (pg < P) = true := by simpa using h4
    go_enter Try.func70, Try.ntmps70
    go_wp2
    go_ret
    exact ⟨rfl, below_alloc _ _⟩
  · rw [on_no (by omega)]
    have hd : decide (pg < P) = false := by simpa using h4
    go_enter Try.func70, Try.ntmps70
    go_wp2
    go_ret
    exact ⟨rfl, below_alloc _ _⟩
theorem compare_any (x y : Int) (w : World) : Calls Try.prog 99 #[.int .i64 x, .int .i64 y] w fun e w' => e = .returned (.int .i64 (cmpI x y)) ∧ w' = w := by
  unfold cmpI
  by_cases h1 : x < y
  · rw [if_pos h1]
    go_enter Try.func99, Try.ntmps99
    go_wp2
    go_ret
    exact ⟨rfl, rfl⟩
  · by_cases h2 : y < x
    · rw [if_neg h1, if_pos h2]
      go_enter Try.func99, Try.ntmps99
      go_wp2
      go_ret
      exact ⟨rfl, rfl⟩
    · rw [if_neg h1, if_neg h2]
      go_enter Try.func99, Try.ntmps99
      go_wp2
      go_ret
      exact ⟨rfl, rfl⟩
set_option maxHeartbeats 1000000 in
/-- cmp.Or of two numbers. -/
theorem or2_any (g : Nat) (a b : Int) (w : World) (h : Blk w g 3 [.int .i64 a, .int .i64 b]) : Calls Try.prog 98 #[.slice (some ⟨g, 0, none⟩) 2 2] w fun e w' => e = .returned (.int .i64 (orI a b)) ∧ w' = w := by
  unfold orI
  have c0 := h.cell' (i := 0) rfl
  have c1 := h.cell' (i := 1) rfl
  by_cases ha : a = 0
  · have h0 : (a != 0) = false := by rw [ha]; rfl
    rw [if_pos ha]
    clear ha
    by_cases hb : b = 0
    · have h1 : (b != 0) = false := by rw [hb]; rfl
      rw [hb] at c1 ⊢
      have h2 : ((0 : Int) != 0) = false := rfl
      clear hb h1
      go_enter Try.func98, Try.ntmps98
      go_wp2
      go_loop [8] (fun i => ∃ k : Nat, k ≤ 2 ∧ i = .int .i64 k) (fun i => 2 - (intOf i).toNat)
      case atStart => exact ⟨0, by omega, rfl⟩
      case round =>
        obtain ⟨k, hk, rfl⟩ := hrel
        match k, hk with
        | 0, _ =>
          go_wp2
          go_round
          case rel => exact ⟨1, by omega, by go_num⟩
          case measure => simp [intOf]
        | 1, _ =>
          go_wp2
          go_round
          case rel => exact ⟨2, by omega, by go_num⟩
          case measure => simp [intOf]
        | 2, _ =>
          go_wp2
          go_ret
          exact ⟨rfl, rfl⟩
    · have h1 : (b != 0) = true := by rw [bne_iff_ne]; exact hb
      clear hb
      go_enter Try.func98, Try.ntmps98
      go_wp2
      go_loop [8] (fun i => ∃ k : Nat, k ≤ 1 ∧ i = .int .i64 k) (fun i => 2 - (intOf i).toNat)
      case atStart => exact ⟨0, by omega, rfl⟩
      case round =>
        obtain ⟨k, hk, rfl⟩ := hrel
        match k, hk with
        | 0, _ =>
          go_wp2
          go_round
          case rel => exact ⟨1, by omega, by go_num⟩
          case measure => simp [intOf]
        | 1, _ =>
          go_wp2
          go_ret
          exact ⟨rfl, rfl⟩
  · have h0 : (a != 0) = true := by rw [bne_iff_ne]; exact ha
    rw [if_neg ha]
    clear ha
    go_enter Try.func98, Try.ntmps98
    go_wp2
    go_loop [8] (fun i => i = .int .i64 0) (fun _ => 0)
    case atStart => rfl
    case round =>
      subst hrel
      go_wp2
      go_ret
      exact ⟨rfl, rfl⟩
set_option linter.unusedSimpArgs false in
set_option maxRecDepth 100000 in
set_option maxHeartbeats 4000000 in
theorem comparePlaces_any (a b c d : Int) (w : World) : Calls Try.prog 72 #[.agg #[.int .i64 a, .int .i64 b], .agg #[.int .i64 c, .int .i64 d]] w fun e w' => e = .returned (.int .i64 (cmpP a b c d)) ∧ Below w.heap.size w w' := by
  have hb0 := bt (below_alloc w (.cells #[.int .i64 a, .int .i64 b] 29)) (below_alloc _ (.cells #[.int .i64 c, .int .i64 d] 29))
  have b0 := (Blk.new' w 29 #[.int .i64 a, .int .i64 b]).alloc (.cells #[.int .i64 c, .int .i64 d] 29)
  have b1 := Blk.new' (w.alloc (.cells #[.int .i64 a, .int .i64 b] 29)) 29 #[.int .i64 c, .int .i64 d]
  rw [World.size_alloc] at b1
  go_enter Try.func72, Try.ntmps72
  go_upto_region 1 with (fail)
  have hs0 : w.heap.size + 1 < ((w.alloc (.cells #[.int .i64 a, .int .i64 b] 29)).alloc (.cells #[.int .i64 c, .int .i64 d] 29)).heap.size := b1.lt
  generalize (w.alloc (.cells #[.int .i64 a, .int .i64 b] 29)).alloc (.cells #[.int .i64 c, .int .i64 d] 29) = W0 at *
  refine wp_region_noPanic ?_
  refine wp_region_held_drew (S := fun W => Below w.heap.size w W ∧ Blk W w.heap.size 29 [.int .i64 a, .int .i64 b] ∧ Blk W (w.heap.size + 1) 29 [.int .i64 c, .int .i64 d]) (by kernel_rfl) ⟨hb0.drew, b0.drew, b1.drew⟩ (fun hHeld => ?_)
  refine wpAnyH_take (i := 0) (v := ?_) rfl (by kernel_rfl) (by kernel_rfl) (by kernel_rfl) (fun _ _ _ h => h) (Or.inl ⟨by rfl, ?_⟩) hHeld ?_
  rotate_left
  · intro w' hSw; try dsimp only at hSw
    obtain ⟨_, q0, q1⟩ := hSw
    have e0 := q0.cell' (i := 0) rfl; have e1 := q0.cell' (i := 1) rfl; have e2 := q1.cell' (i := 0) rfl; have e3 := q1.cell' (i := 1) rfl
    go_simp; try (with_reducible rfl)
  try simp only [Act.put, List.getElem_toArray, List.getElem_cons_succ, List.getElem_cons_zero, List.setIfInBounds_toArray, List.set_cons_zero, List.set_cons_succ]
  refine wpAnyH_take (i := 1) (v := ?_) rfl (by kernel_rfl) (by kernel_rfl) (by kernel_rfl) (fun _ _ _ h => h) (Or.inl ⟨by rfl, ?_⟩) hHeld ?_
  rotate_left
  · intro w' hSw; try dsimp only at hSw
    obtain ⟨_, q0, q1⟩ := hSw
    have e0 := q0.cell' (i := 0) rfl; have e1 := q0.cell' (i := 1) rfl; have e2 := q1.cell' (i := 0) rfl; have e3 := q1.cell' (i := 1) rfl
    go_simp; try (with_reducible rfl)
  try simp only [Act.put, List.getElem_toArray, List.getElem_cons_succ, List.getElem_cons_zero, List.setIfInBounds_toArray, List.set_cons_zero, List.set_cons_succ]
  refine wpAnyH_take (i := 2) (v := ?_) rfl (by kernel_rfl) (by kernel_rfl) (by kernel_rfl) (fun _ _ _ h => h) (Or.inl ⟨by rfl, ?_⟩) hHeld ?_
  rotate_left
  · intro w' hSw; try dsimp only at hSw
    obtain ⟨_, q0, q1⟩ := hSw
    have e0 := q0.cell' (i := 0) rfl; have e1 := q0.cell' (i := 1) rfl; have e2 := q1.cell' (i := 0) rfl; have e3 := q1.cell' (i := 1) rfl
    go_simp; try (with_reducible rfl)
  try simp only [Act.put, List.getElem_toArray, List.getElem_cons_succ, List.getElem_cons_zero, List.setIfInBounds_toArray, List.set_cons_zero, List.set_cons_succ]
  refine wpAnyH_take (i := 3) (v := ?_) rfl (by kernel_rfl) (by kernel_rfl) (by kernel_rfl) (fun _ _ _ h => h) (Or.inl ⟨by rfl, ?_⟩) hHeld ?_
  rotate_left
  · intro w' hSw; try dsimp only at hSw
    obtain ⟨_, q0, q1⟩ := hSw
    have e0 := q0.cell' (i := 0) rfl; have e1 := q0.cell' (i := 1) rfl; have e2 := q1.cell' (i := 0) rfl; have e3 := q1.cell' (i := 1) rfl
    go_simp; try (with_reducible rfl)
  try simp only [Act.put, List.getElem_toArray, List.getElem_cons_succ, List.getElem_cons_zero, List.setIfInBounds_toArray, List.set_cons_zero, List.set_cons_succ]
  refine wpAnyH_take (i := 5) (v := ?_) rfl (by kernel_rfl) (by kernel_rfl) (by kernel_rfl) (fun _ _ _ h => h) (Or.inl ⟨by rfl, ?_⟩) hHeld ?_
  rotate_left
  · intro w' hSw; try dsimp only at hSw
    obtain ⟨_, q0, q1⟩ := hSw
    have e0 := q0.cell' (i := 0) rfl; have e1 := q0.cell' (i := 1) rfl; have e2 := q1.cell' (i := 0) rfl; have e3 := q1.cell' (i := 1) rfl
    go_simp; try (with_reducible rfl)
  try simp only [Act.put, List.getElem_toArray, List.getElem_cons_succ, List.getElem_cons_zero, List.setIfInBounds_toArray, List.set_cons_zero, List.set_cons_succ]
  refine wpAnyH_take (i := 6) (v := ?_) rfl (by kernel_rfl) (by kernel_rfl) (by kernel_rfl) (fun _ _ _ h => h) (Or.inl ⟨by rfl, ?_⟩) hHeld ?_
  rotate_left
  · intro w' hSw; try dsimp only at hSw
    obtain ⟨_, q0, q1⟩ := hSw
    have e0 := q0.cell' (i := 0) rfl; have e1 := q0.cell' (i := 1) rfl; have e2 := q1.cell' (i := 0) rfl; have e3 := q1.cell' (i := 1) rfl
    go_simp; try (with_reducible rfl)
  try simp only [Act.put, List.getElem_toArray, List.getElem_cons_succ, List.getElem_cons_zero, List.setIfInBounds_toArray, List.set_cons_zero, List.set_cons_succ]
  refine wpAnyH_take (i := 7) (v := ?_) rfl (by kernel_rfl) (by kernel_rfl) (by kernel_rfl) (fun _ _ _ h => h) (Or.inl ⟨by rfl, ?_⟩) hHeld ?_
  rotate_left
  · intro w' hSw; try dsimp only at hSw
    obtain ⟨_, q0, q1⟩ := hSw
    have e0 := q0.cell' (i := 0) rfl; have e1 := q0.cell' (i := 1) rfl; have e2 := q1.cell' (i := 0) rfl; have e3 := q1.cell' (i := 1) rfl
    go_simp; try (with_reducible rfl)
  try simp only [Act.put, List.getElem_toArray, List.getElem_cons_succ, List.getElem_cons_zero, List.setIfInBounds_toArray, List.set_cons_zero, List.set_cons_succ]
  refine wpAnyH_take (i := 8) (v := ?_) rfl (by kernel_rfl) (by kernel_rfl) (by kernel_rfl) (fun _ _ _ h => h) (Or.inl ⟨by rfl, ?_⟩) hHeld ?_
  rotate_left
  · intro w' hSw; try dsimp only at hSw
    obtain ⟨_, q0, q1⟩ := hSw
    have e0 := q0.cell' (i := 0) rfl; have e1 := q0.cell' (i := 1) rfl; have e2 := q1.cell' (i := 0) rfl; have e3 := q1.cell' (i := 1) rfl
    go_simp; try (with_reducible rfl)
  try simp only [Act.put, List.getElem_toArray, List.getElem_cons_succ, List.getElem_cons_zero, List.setIfInBounds_toArray, List.set_cons_zero, List.set_cons_succ]
  refine wpAnyH_ready (rs := [4]) (by kernel_rfl) (by simp) ?_
  refine AllReadyH.cons rfl (fun K hK => ?_) AllReadyH.nil
  go_simp
  refine (compare_any _ _ _).mono ?_
  rintro e W2 ⟨rfl, hw2⟩; have hw3 := hw2.symm; subst hw3; clear hw2
  try go_wp2_with fail
  refine hK.out _ _ hHeld (fun hHeld => ?_)
  clear hK K
  try simp only [Act.put, List.getElem_toArray, List.getElem_cons_succ, List.getElem_cons_zero, List.setIfInBounds_toArray, List.set_cons_zero, List.set_cons_succ]
  refine wpAnyH_ready (rs := [9]) (by kernel_rfl) (by simp) ?_
  refine AllReadyH.cons rfl (fun K hK => ?_) AllReadyH.nil
  go_simp
  refine (compare_any _ _ _).mono ?_
  rintro e W2 ⟨rfl, hw2⟩; have hw3 := hw2.symm; subst hw3; clear hw2
  try go_wp2_with fail
  refine hK.out _ _ hHeld (fun hHeld => ?_)
  clear hK K
  try simp only [Act.put, List.getElem_toArray, List.getElem_cons_succ, List.getElem_cons_zero, List.setIfInBounds_toArray, List.set_cons_zero, List.set_cons_succ]
  refine wpAnyH_ready (rs := [10]) (by kernel_rfl) (by simp) ?_
  refine AllReadyH.cons rfl (fun K hK => ?_) AllReadyH.nil
  go_simp
  refine hK.out _ _ ⟨bt hHeld.1 (below_alloc _ _), hHeld.2.1.alloc _, hHeld.2.2.alloc _⟩ (fun hHeld => ?_)
  clear hK K
  try simp only [Act.put, List.getElem_toArray, List.getElem_cons_succ, List.getElem_cons_zero, List.setIfInBounds_toArray, List.set_cons_zero, List.set_cons_succ]
  have bb := (Blk.new' W0 3 #[.int .i64 (cmpI a c), .int .i64 (cmpI b d)]).drew
  refine wpAnyH_ready (rs := [11]) (by kernel_rfl) (by simp) ?_
  refine AllReadyH.cons rfl (fun K hK => ?_) AllReadyH.nil
  go_simp
  refine (or2_any _ _ _ _ bb).mono ?_
  rintro e W2 ⟨rfl, hw2⟩; have hw3 := hw2.symm; subst hw3; clear hw2
  try go_wp2_with fail
  refine hK.out _ _ hHeld (fun hHeld => ?_)
  clear hK K
  try simp only [Act.put, List.getElem_toArray, List.getElem_cons_succ, List.getElem_cons_zero, List.setIfInBounds_toArray, List.set_cons_zero, List.set_cons_succ]
  refine wpAnyH_take (i := 12) (v := ?_) rfl (by kernel_rfl) (by kernel_rfl) (by kernel_rfl) (fun _ _ _ h => h) (Or.inl ⟨by rfl, ?_⟩) hHeld ?_
  rotate_left
  · intro w' hSw; try dsimp only at hSw
    go_simp; try (with_reducible rfl)
  try simp only [Act.put, List.getElem_toArray, List.getElem_cons_succ, List.getElem_cons_zero, List.setIfInBounds_toArray, List.set_cons_zero, List.set_cons_succ]
  refine wpAnyH_done (by kernel_rfl) ?_ _
  refine NoPanic.normal ?_
  go_wp2_with fail
  go_ret
  exact ⟨rfl, hHeld.1⟩
set_option linter.unusedSimpArgs false in
set_option maxRecDepth 100000 in
set_option maxHeartbeats 4000000 in
theorem isAhead_any (x y : Fd) (w : World) : Calls Try.prog 38 #[x.val, y.val] w fun e w' => e = .returned (.bool (aheadB x y)) ∧ Below w.heap.size w w' := by
  obtain ⟨xh, xg, xk, xp, xs, xt⟩ := x
  obtain ⟨yh, yg, yk, yp, ys, yt⟩ := y
  dsimp only [Fd.val]
  have hb0 := bt (below_alloc w (.cells #[.int .i64 xh, .int .i64 xg, .int .i64 xk, .int .i64 xp, .int .i64 xs, .int .i64 xt] 33)) (below_alloc _ (.cells #[.int .i64 yh, .int .i64 yg, .int .i64 yk, .int .i64 yp, .int .i64 ys, .int .i64 yt] 33))
  have b0 := (Blk.new' w 33 #[.int .i64 xh, .int .i64 xg, .int .i64 xk, .int .i64 xp, .int .i64 xs, .int .i64 xt]).alloc (.cells #[.int .i64 yh, .int .i64 yg, .int .i64 yk, .int .i64 yp, .int .i64 ys, .int .i64 yt] 33)
  have b1 := Blk.new' (w.alloc (.cells #[.int .i64 xh, .int .i64 xg, .int .i64 xk, .int .i64 xp, .int .i64 xs, .int .i64 xt] 33)) 33 #[.int .i64 yh, .int .i64 yg, .int .i64 yk, .int .i64 yp, .int .i64 ys, .int .i64 yt]
  rw [World.size_alloc] at b1
  unfold aheadB
  dsimp only
  cases ha : newB xs xt ys yt with
  | true =>
    rw [Bool.true_or, if_pos rfl]
    go_enter Try.func38, Try.ntmps38
    go_upto_region 1 with (fail)
    generalize (w.alloc (.cells #[.int .i64 xh, .int .i64 xg, .int .i64 xk, .int .i64 xp, .int .i64 xs, .int .i64 xt] 33)).alloc (.cells #[.int .i64 yh, .int .i64 yg, .int .i64 yk, .int .i64 yp, .int .i64 ys, .int .i64 yt] 33) = W0 at *
    have z0 := b0.cell' (i := 0) rfl; have y0 := b1.cell' (i := 0) rfl; have z1 := b0.cell' (i := 1) rfl; have y1 := b1.cell' (i := 1) rfl; have z2 := b0.cell' (i := 2) rfl; have y2 := b1.cell' (i := 2) rfl; have z3 := b0.cell' (i := 3) rfl; have y3 := b1.cell' (i := 3) rfl; have z4 := b0.cell' (i := 4) rfl; have y4 := b1.cell' (i := 4) rfl; have z5 := b0.cell' (i := 5) rfl; have y5 := b1.cell' (i := 5) rfl
    go_wp2_with (first | (go_at_call 71; refine (gnewer_any _ _ _ _ _ _ _ _ _).mono ?_; rintro e w1 ⟨rfl, hbn⟩; replace b0 := b0.kept hbn; replace b1 := b1.kept hbn; replace hb0 := bt hb0 hbn; clear hbn; have z0 := b0.cell' (i := 0) rfl; have y0 := b1.cell' (i := 0) rfl; have z1 := b0.cell' (i := 1) rfl; have y1 := b1.cell' (i := 1) rfl; have z2 := b0.cell' (i := 2) rfl; have y2 := b1.cell' (i := 2) rfl; have z3 := b0.cell' (i := 3) rfl; have y3 := b1.cell' (i := 3) rfl; have z4 := b0.cell' (i := 4) rfl; have y4 := b1.cell' (i := 4) rfl; have z5 := b0.cell' (i := 5) rfl; have y5 := b1.cell' (i := 5) rfl) | (go_at_call 72; refine (comparePlaces_any _ _ _ _ _).mono ?_; rintro e w1 ⟨rfl, hbn⟩; replace hb0 := bt hb0 hbn; clear hbn))
    go_ret
    exact ⟨rfl, hb0⟩
  | false =>
    cases hc : newB ys yt xs xt with
    | true =>
      rw [Bool.false_or, if_pos rfl]
      go_enter Try.func38, Try.ntmps38
      go_upto_region 1 with (fail)
      generalize (w.alloc (.cells #[.int .i64 xh, .int .i64 xg, .int .i64 xk, .int .i64 xp, .int .i64 xs, .int .i64 xt] 33)).alloc (.cells #[.int .i64 yh, .int .i64 yg, .int .i64 yk, .int .i64 yp, .int .i64 ys, .int .i64 yt] 33) = W0 at *
      have z0 := b0.cell' (i := 0) rfl; have y0 := b1.cell' (i := 0) rfl; have z1 := b0.cell' (i := 1) rfl; have y1 := b1.cell' (i := 1) rfl; have z2 := b0.cell' (i := 2) rfl; have y2 := b1.cell' (i := 2) rfl; have z3 := b0.cell' (i := 3) rfl; have y3 := b1.cell' (i := 3) rfl; have z4 := b0.cell' (i := 4) rfl; have y4 := b1.cell' (i := 4) rfl; have z5 := b0.cell' (i := 5) rfl; have y5 := b1.cell' (i := 5) rfl
      go_wp2_with (first | (go_at_call 71; refine (gnewer_any _ _ _ _ _ _ _ _ _).mono ?_; rintro e w1 ⟨rfl, hbn⟩; replace b0 := b0.kept hbn; replace b1 := b1.kept hbn; replace hb0 := bt hb0 hbn; clear hbn; have z0 := b0.cell' (i := 0) rfl; have y0 := b1.cell' (i := 0) rfl; have z1 := b0.cell' (i := 1) rfl; have y1 := b1.cell' (i := 1) rfl; have z2 := b0.cell' (i := 2) rfl; have y2 := b1.cell' (i := 2) rfl; have z3 := b0.cell' (i := 3) rfl; have y3 := b1.cell' (i := 3) rfl; have z4 := b0.cell' (i := 4) rfl; have y4 := b1.cell' (i := 4) rfl; have z5 := b0.cell' (i := 5) rfl; have y5 := b1.cell' (i := 5) rfl) | (go_at_call 72; refine (comparePlaces_any _ _ _ _ _).mono ?_; rintro e w1 ⟨rfl, hbn⟩; replace hb0 := bt hb0 hbn; clear hbn))
      go_ret
      exact ⟨rfl, hb0⟩
    | false =>
      rw [Bool.false_or, if_neg (by simp)]
      go_enter Try.func38, Try.ntmps38
      go_upto_region 1 with (fail)
      generalize (w.alloc (.cells #[.int .i64 xh, .int .i64 xg, .int .i64 xk, .int .i64 xp, .int .i64 xs, .int .i64 xt] 33)).alloc (.cells #[.int .i64 yh, .int .i64 yg, .int .i64 yk, .int .i64 yp, .int .i64 ys, .int .i64 yt] 33) = W0 at *
      have z0 := b0.cell' (i := 0) rfl; have y0 := b1.cell' (i := 0) rfl; have z1 := b0.cell' (i := 1) rfl; have y1 := b1.cell' (i := 1) rfl; have z2 := b0.cell' (i := 2) rfl; have y2 := b1.cell' (i := 2) rfl; have z3 := b0.cell' (i := 3) rfl; have y3 := b1.cell' (i := 3) rfl; have z4 := b0.cell' (i := 4) rfl; have y4 := b1.cell' (i := 4) rfl; have z5 := b0.cell' (i := 5) rfl; have y5 := b1.cell' (i := 5) rfl
      go_wp2_with (first | (go_at_call 71; refine (gnewer_any _ _ _ _ _ _ _ _ _).mono ?_; rintro e w1 ⟨rfl, hbn⟩; replace b0 := b0.kept hbn; replace b1 := b1.kept hbn; replace hb0 := bt hb0 hbn; clear hbn; have z0 := b0.cell' (i := 0) rfl; have y0 := b1.cell' (i := 0) rfl; have z1 := b0.cell' (i := 1) rfl; have y1 := b1.cell' (i := 1) rfl; have z2 := b0.cell' (i := 2) rfl; have y2 := b1.cell' (i := 2) rfl; have z3 := b0.cell' (i := 3) rfl; have y3 := b1.cell' (i := 3) rfl; have z4 := b0.cell' (i := 4) rfl; have y4 := b1.cell' (i := 4) rfl; have z5 := b0.cell' (i := 5) rfl; have y5 := b1.cell' (i := 5) rfl) | (go_at_call 72; refine (comparePlaces_any _ _ _ _ _).mono ?_; rintro e w1 ⟨rfl, hbn⟩; replace hb0 := bt hb0 hbn; clear hbn))
      go_ret
      exact ⟨rfl, hb0⟩
end Go.Proofs.Ytfgelncfmopibaa
