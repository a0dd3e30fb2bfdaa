/-
  For all headers a, b and c: the call of PageNewer returns true (Newer is the document's; none is newer than itself; of two at most one is newer than the other; what is newer than a newer one is newer), and all three arguments read afterwards as they read before. No condition.
-/
import Derived.Test.YtmagcohdhljaeaaPgLift
namespace Go.Proofs.Ytmagcohdhljaeaa
open Go.ChangeShapes Go.WideShapes Go.ChangeAt Go.RowKit
theorem qnewer_any (k g s t k' g' s' t' : Int) (w : World) :
    Calls Try.prog 28 #[.agg #[.int .i64 k, .int .i64 g, .int .i64 s, .int .i64 t], .agg #[.int .i64 k', .int .i64 g', .int .i64 s', .int .i64 t']] w fun e w' => e = .returned (.bool (newB s t s' t')) ∧ Below w.heap.size w w' := by
  by_cases h1 : s' < s
  · have e : newB s t s' t' = true := by simp [newB, h1]
    rw [e]
    clear e
    go_enter Try.func28, Try.ntmps28
    go_wp2
    go_ret
    exact ⟨rfl, bt (below_alloc w _) (below_alloc _ _)⟩
  · by_cases h2 : s = s'
    · subst h2
      have e : newB s t s t' = decide (t < t') := by simp [newB]
      rw [e]
      clear e
      by_cases h3 : t < t'
      · have e : decide (t < t') = true := by simpa using h3
        rw [e]
        clear e
        go_enter Try.func28, Try.ntmps28
        go_wp2
        go_ret
        exact ⟨rfl, bt (below_alloc w _) (below_alloc _ _)⟩
      · have e : decide (t < t') = false := by simpa using h3
        rw [e]
        clear e
        go_enter Try.func28, Try.ntmps28
        go_wp2
        go_ret
        exact ⟨rfl, bt (below_alloc w _) (below_alloc _ _)⟩
    · have e : newB s t s' t' = false := by simp [newB, h1, h2]
      rw [e]
      clear e
      have hb : (s == s') = false := beq_eq_false_iff_ne.2 h2
      clear h2
      go_enter Try.func28, Try.ntmps28
      go_wp2
      go_ret
      exact ⟨rfl, bt (below_alloc w _) (below_alloc _ _)⟩
theorem newB_self (s t : Int) : newB s t s t = false := by simp [newB]
theorem newB_once {s t s' t' : Int} (h : newB s t s' t' = true) : newB s' t' s t = false := by
  simp only [newB, Bool.or_eq_true, Bool.and_eq_true, decide_eq_true_eq] at h
  simp only [newB, Bool.or_eq_false_iff, Bool.and_eq_false_iff, decide_eq_false_iff_not]
  omega
theorem newB_trans {s t s' t' s'' t'' : Int} (h : newB s t s' t' = true) (h' : newB s' t' s'' t'' = true) : newB s t s'' t'' = true := by
  simp only [newB, Bool.or_eq_true, Bool.and_eq_true, decide_eq_true_eq] at h h' ⊢
  omega
theorem cells8_below {W w2 : World} {N M : Nat} {a0 a1 a2 a3 b0 b1 b2 b3 : Value} (hb : Below W.heap.size W w2)
    (h : W.cell? ⟨N, 0, none⟩ = some a0 ∧ W.cell? ⟨N, 1, none⟩ = some a1 ∧ W.cell? ⟨N, 2, none⟩ = some a2 ∧ W.cell? ⟨N, 3, none⟩ = some a3 ∧ W.cell? ⟨M, 0, none⟩ = some b0 ∧ W.cell? ⟨M, 1, none⟩ = some b1 ∧ W.cell? ⟨M, 2, none⟩ = some b2 ∧ W.cell? ⟨M, 3, none⟩ = some b3) :
    w2.cell? ⟨N, 0, none⟩ = some a0 ∧ w2.cell? ⟨N, 1, none⟩ = some a1 ∧ w2.cell? ⟨N, 2, none⟩ = some a2 ∧ w2.cell? ⟨N, 3, none⟩ = some a3 ∧ w2.cell? ⟨M, 0, none⟩ = some b0 ∧ w2.cell? ⟨M, 1, none⟩ = some b1 ∧ w2.cell? ⟨M, 2, none⟩ = some b2 ∧ w2.cell? ⟨M, 3, none⟩ = some b3 := by
  obtain ⟨h0, h1, h2, h3, h4, h5, h6, h7⟩ := h
  have x := cells4_below hb ⟨h0, h1, h2, h3⟩
  have y := cells4_below hb ⟨h4, h5, h6, h7⟩
  exact ⟨x.1, x.2.1, x.2.2.1, x.2.2.2, y⟩
set_option linter.unusedSimpArgs false in
set_option maxRecDepth 100000 in
set_option maxHeartbeats 4000000 in
theorem newer_walk (k g s t k' g' s' t' k'' g'' s'' t'' : Int) (w : World) :
    Calls Try.prog 8 #[.agg #[.int .i64 k, .int .i64 g, .int .i64 s, .int .i64 t], .agg #[.int .i64 k', .int .i64 g', .int .i64 s', .int .i64 t'], .agg #[.int .i64 k'', .int .i64 g'', .int .i64 s'', .int .i64 t'']] w fun e w' => e = .returned (.bool true) ∧ Below w.heap.size w w' := by
  have b0 := ((Blk.new' w 23 #[.int .i64 k, .int .i64 g, .int .i64 s, .int .i64 t]).alloc (.cells #[.int .i64 k', .int .i64 g', .int .i64 s', .int .i64 t'] 23)).alloc (.cells #[.int .i64 k'', .int .i64 g'', .int .i64 s'', .int .i64 t''] 23)
  have b1 := (Blk.new' (w.alloc (.cells #[.int .i64 k, .int .i64 g, .int .i64 s, .int .i64 t] 23)) 23 #[.int .i64 k', .int .i64 g', .int .i64 s', .int .i64 t']).alloc (.cells #[.int .i64 k'', .int .i64 g'', .int .i64 s'', .int .i64 t''] 23)
  have b2 := Blk.new' ((w.alloc (.cells #[.int .i64 k, .int .i64 g, .int .i64 s, .int .i64 t] 23)).alloc (.cells #[.int .i64 k', .int .i64 g', .int .i64 s', .int .i64 t'] 23)) 23 #[.int .i64 k'', .int .i64 g'', .int .i64 s'', .int .i64 t'']
  rw [World.size_alloc] at b1
  rw [World.size_alloc, World.size_alloc] at b2
  have hbel : Below w.heap.size w (((w.alloc (.cells #[.int .i64 k, .int .i64 g, .int .i64 s, .int .i64 t] 23)).alloc (.cells #[.int .i64 k', .int .i64 g', .int .i64 s', .int .i64 t'] 23)).alloc (.cells #[.int .i64 k'', .int .i64 g'', .int .i64 s'', .int .i64 t''] 23)) := ((below_alloc w _).alloc (by simp) _).alloc (by simp; omega) _
  have NAA : Hid (newB s t s t = false) := newB_self s t
  have hn1 := fun w => newer_any k g s t k' g' s' t' w
  have hn2 := fun w => qnewer_any k g s t k' g' s' t' w
  have hn3 := fun w => newer_any k g s t k g s t w
  have hn4 := fun w => newer_any k' g' s' t' k g s t w
  have hn5 := fun w => newer_any k' g' s' t' k'' g'' s'' t'' w
  have hn6 := fun w => newer_any k g s t k'' g'' s'' t'' w
  rw [NAA.out] at hn3
  cases hab : newB s t s' t' with
  | true =>
    rw [newB_once hab] at hn4
    rw [hab] at hn1 hn2
    have HTR : Hid (newB s' t' s'' t'' = true → newB s t s'' t'' = true) := newB_trans hab
    clear hab
    go_enter Try.func8, Try.ntmps8
    go_wp2_with fail
    refine (plive_any _).mono ?_
    rintro e w1 ⟨rfl, hb1⟩
    have hB1 := bt hbel hb1
    have c0 := b0.kept hb1
    have c1 := b1.kept hb1
    have c2 := b2.kept hb1
    clear hbel hb1 b0 b1 b2
    go_wp2_with fail
    refine wp_region_noPanic ?_
    refine wp_region_held_drew (S := fun w' => w'.cell? ⟨w.heap.size, 0, none⟩ = some (.int .i64 k) ∧ w'.cell? ⟨w.heap.size, 1, none⟩ = some (.int .i64 g) ∧ w'.cell? ⟨w.heap.size, 2, none⟩ = some (.int .i64 s) ∧ w'.cell? ⟨w.heap.size, 3, none⟩ = some (.int .i64 t) ∧ w'.cell? ⟨w.heap.size + 1, 0, none⟩ = some (.int .i64 k') ∧ w'.cell? ⟨w.heap.size + 1, 1, none⟩ = some (.int .i64 g') ∧ w'.cell? ⟨w.heap.size + 1, 2, none⟩ = some (.int .i64 s') ∧ w'.cell? ⟨w.heap.size + 1, 3, none⟩ = some (.int .i64 t')) (by kernel_rfl) ⟨c0.drew.cell' rfl, c0.drew.cell' rfl, c0.drew.cell' rfl, c0.drew.cell' rfl, c1.drew.cell' rfl, c1.drew.cell' rfl, c1.drew.cell' rfl, c1.drew.cell' rfl⟩ (fun hHeld => ?_)
    refine wpAnyH_take (i := 0) (v := ?_) rfl (by kernel_rfl) (by kernel_rfl) (by kernel_rfl) (fun _ _ _ h => h) (Or.inl ⟨by rfl, ?_⟩) hHeld ?_
    rotate_left
    · intro w hSw; try dsimp only at hSw
      go_simp; try (with_reducible rfl)
    try simp only [Act.put, List.getElem_toArray, List.getElem_cons_succ, List.getElem_cons_zero, List.setIfInBounds_toArray, List.set_cons_zero, List.set_cons_succ]
    refine wpAnyH_take (i := 1) (v := ?_) rfl (by kernel_rfl) (by kernel_rfl) (by kernel_rfl) (fun _ _ _ h => h) (Or.inl ⟨by rfl, ?_⟩) hHeld ?_
    rotate_left
    · intro w hSw; try dsimp only at hSw
      go_simp; try (with_reducible rfl)
    try simp only [Act.put, List.getElem_toArray, List.getElem_cons_succ, List.getElem_cons_zero, List.setIfInBounds_toArray, List.set_cons_zero, List.set_cons_succ]
    refine wpAnyH_take (i := 3) (v := ?_) rfl (by kernel_rfl) (by kernel_rfl) (by kernel_rfl) (fun _ _ _ h => h) (Or.inl ⟨by rfl, ?_⟩) hHeld ?_
    rotate_left
    · intro w hSw; try dsimp only at hSw
      go_simp; try (with_reducible rfl)
    try simp only [Act.put, List.getElem_toArray, List.getElem_cons_succ, List.getElem_cons_zero, List.setIfInBounds_toArray, List.set_cons_zero, List.set_cons_succ]
    refine wpAnyH_take (i := 4) (v := ?_) rfl (by kernel_rfl) (by kernel_rfl) (by kernel_rfl) (fun _ _ _ h => h) (Or.inl ⟨by rfl, ?_⟩) hHeld ?_
    rotate_left
    · intro w hSw; try dsimp only at hSw
      go_simp; try (with_reducible rfl)
    try simp only [Act.put, List.getElem_toArray, List.getElem_cons_succ, List.getElem_cons_zero, List.setIfInBounds_toArray, List.set_cons_zero, List.set_cons_succ]
    refine wpAnyH_ready (rs := [2]) (by kernel_rfl) (by simp) ?_
    refine AllReadyH.cons rfl (fun K hK => ?_) AllReadyH.nil
    go_simp
    refine (hn1 _).mono ?_
    rintro e Wh2 ⟨rfl, h2⟩
    try go_wp2_with fail
    refine hK.out _ _ (cells8_below h2 hHeld) (fun hHeld => ?_)
    clear hK K
    try simp only [Act.put, List.getElem_toArray, List.getElem_cons_succ, List.getElem_cons_zero, List.setIfInBounds_toArray, List.set_cons_zero, List.set_cons_succ]
    refine wpAnyH_ready (rs := [5]) (by kernel_rfl) (by simp) ?_
    refine AllReadyH.cons rfl (fun K hK => ?_) AllReadyH.nil
    go_simp
    refine (hn2 _).mono ?_
    rintro e Wh5 ⟨rfl, h5⟩
    try go_wp2_with fail
    refine hK.out _ _ (cells8_below h5 hHeld) (fun hHeld => ?_)
    clear hK K
    try simp only [Act.put, List.getElem_toArray, List.getElem_cons_succ, List.getElem_cons_zero, List.setIfInBounds_toArray, List.set_cons_zero, List.set_cons_succ]
    refine wpAnyH_take (i := 6) (v := ?_) rfl (by kernel_rfl) (by kernel_rfl) (by kernel_rfl) (fun _ _ _ h => h) (Or.inl ⟨by rfl, ?_⟩) hHeld ?_
    rotate_left
    · intro w hSw; try dsimp only at hSw
      go_simp; try (with_reducible rfl)
    try simp only [Act.put, List.getElem_toArray, List.getElem_cons_succ, List.getElem_cons_zero, List.setIfInBounds_toArray, List.set_cons_zero, List.set_cons_succ]
    refine wpAnyH_take (i := 7) (v := ?_) rfl (by kernel_rfl) (by kernel_rfl) (by kernel_rfl) (fun _ _ _ h => h) (Or.inl ⟨by rfl, ?_⟩) hHeld ?_
    rotate_left
    · intro w hSw; try dsimp only at hSw
      go_simp; try (with_reducible rfl)
    try simp only [Act.put, List.getElem_toArray, List.getElem_cons_succ, List.getElem_cons_zero, List.setIfInBounds_toArray, List.set_cons_zero, List.set_cons_succ]
    refine wpAnyH_take (i := 8) (v := ?_) rfl (by kernel_rfl) (by kernel_rfl) (by kernel_rfl) (fun _ _ _ h => h) (Or.inl ⟨by rfl, ?_⟩) hHeld ?_
    rotate_left
    · intro w hSw; try dsimp only at hSw
      go_simp; try (with_reducible rfl)
    try simp only [Act.put, List.getElem_toArray, List.getElem_cons_succ, List.getElem_cons_zero, List.setIfInBounds_toArray, List.set_cons_zero, List.set_cons_succ]
    refine wpAnyH_take (i := 9) (v := ?_) rfl (by kernel_rfl) (by kernel_rfl) (by kernel_rfl) (fun _ _ _ h => h) (Or.inl ⟨by rfl, ?_⟩) hHeld ?_
    rotate_left
    · intro w hSw; try dsimp only at hSw
      go_simp; try (with_reducible rfl)
    try simp only [Act.put, List.getElem_toArray, List.getElem_cons_succ, List.getElem_cons_zero, List.setIfInBounds_toArray, List.set_cons_zero, List.set_cons_succ]
    refine wpAnyH_ready (rs := [10]) (by kernel_rfl) (by simp) ?_
    refine AllReadyH.cons rfl (fun K hK => ?_) AllReadyH.nil
    go_simp
    refine (hn3 _).mono ?_
    rintro e Wh10 ⟨rfl, h10⟩
    try go_wp2_with fail
    refine hK.out _ _ (cells8_below h10 hHeld) (fun hHeld => ?_)
    clear hK K
    try simp only [Act.put, List.getElem_toArray, List.getElem_cons_succ, List.getElem_cons_zero, List.setIfInBounds_toArray, List.set_cons_zero, List.set_cons_succ]
    refine wpAnyH_take (i := 11) (v := ?_) rfl (by kernel_rfl) (by kernel_rfl) (by kernel_rfl) (fun _ _ _ h => h) (Or.inl ⟨by rfl, ?_⟩) hHeld ?_
    rotate_left
    · intro w hSw; try dsimp only at hSw
      go_simp; try (with_reducible rfl)
    try simp only [Act.put, List.getElem_toArray, List.getElem_cons_succ, List.getElem_cons_zero, List.setIfInBounds_toArray, List.set_cons_zero, List.set_cons_succ]
    refine wpAnyH_take (i := 12) (v := ?_) rfl (by kernel_rfl) (by kernel_rfl) (by kernel_rfl) (fun _ _ _ h => h) (Or.inl ⟨by rfl, ?_⟩) hHeld ?_
    rotate_left
    · intro w hSw; try dsimp only at hSw
      go_simp; try (with_reducible rfl)
    try simp only [Act.put, List.getElem_toArray, List.getElem_cons_succ, List.getElem_cons_zero, List.setIfInBounds_toArray, List.set_cons_zero, List.set_cons_succ]
    refine wpAnyH_take (i := 13) (v := ?_) rfl (by kernel_rfl) (by kernel_rfl) (by kernel_rfl) (fun _ _ _ h => h) (Or.inl ⟨by rfl, ?_⟩) hHeld ?_
    rotate_left
    · intro w hSw; try dsimp only at hSw
      go_simp; try (with_reducible rfl)
    try simp only [Act.put, List.getElem_toArray, List.getElem_cons_succ, List.getElem_cons_zero, List.setIfInBounds_toArray, List.set_cons_zero, List.set_cons_succ]
    refine wpAnyH_take (i := 14) (v := ?_) rfl (by kernel_rfl) (by kernel_rfl) (by kernel_rfl) (fun _ _ _ h => h) (Or.inl ⟨by rfl, ?_⟩) hHeld ?_
    rotate_left
    · intro w hSw; try dsimp only at hSw
      go_simp; try (with_reducible rfl)
    try simp only [Act.put, List.getElem_toArray, List.getElem_cons_succ, List.getElem_cons_zero, List.setIfInBounds_toArray, List.set_cons_zero, List.set_cons_succ]
    refine wpAnyH_ready (rs := [15]) (by kernel_rfl) (by simp) ?_
    refine AllReadyH.cons rfl (fun K hK => ?_) AllReadyH.nil
    go_simp
    refine (hn1 _).mono ?_
    rintro e Wh15 ⟨rfl, h15⟩
    try go_wp2_with fail
    refine hK.out _ _ (cells8_below h15 hHeld) (fun hHeld => ?_)
    clear hK K
    try simp only [Act.put, List.getElem_toArray, List.getElem_cons_succ, List.getElem_cons_zero, List.setIfInBounds_toArray, List.set_cons_zero, List.set_cons_succ]
    refine wpAnyH_take (i := 16) (v := ?_) rfl (by kernel_rfl) (by kernel_rfl) (by kernel_rfl) (fun _ _ _ h => h) (Or.inl ⟨by rfl, ?_⟩) hHeld ?_
    rotate_left
    · intro w hSw; try dsimp only at hSw
      go_simp; try (with_reducible rfl)
    try simp only [Act.put, List.getElem_toArray, List.getElem_cons_succ, List.getElem_cons_zero, List.setIfInBounds_toArray, List.set_cons_zero, List.set_cons_succ]
    refine wpAnyH_take (i := 17) (v := ?_) rfl (by kernel_rfl) (by kernel_rfl) (by kernel_rfl) (fun _ _ _ h => h) (Or.inl ⟨by rfl, ?_⟩) hHeld ?_
    rotate_left
    · intro w hSw; try dsimp only at hSw
      go_simp; try (with_reducible rfl)
    try simp only [Act.put, List.getElem_toArray, List.getElem_cons_succ, List.getElem_cons_zero, List.setIfInBounds_toArray, List.set_cons_zero, List.set_cons_succ]
    refine wpAnyH_take (i := 18) (v := ?_) rfl (by kernel_rfl) (by kernel_rfl) (by kernel_rfl) (fun _ _ _ h => h) (Or.inl ⟨by rfl, ?_⟩) hHeld ?_
    rotate_left
    · intro w hSw; try dsimp only at hSw
      go_simp; try (with_reducible rfl)
    try simp only [Act.put, List.getElem_toArray, List.getElem_cons_succ, List.getElem_cons_zero, List.setIfInBounds_toArray, List.set_cons_zero, List.set_cons_succ]
    refine wpAnyH_ready (rs := [19]) (by kernel_rfl) (by simp) ?_
    refine AllReadyH.cons rfl (fun K hK => ?_) AllReadyH.nil
    go_simp
    refine (hn4 _).mono ?_
    rintro e Wh19 ⟨rfl, h19⟩
    try go_wp2_with fail
    refine hK.out _ _ (cells8_below h19 hHeld) (fun hHeld => ?_)
    clear hK K
    try simp only [Act.put, List.getElem_toArray, List.getElem_cons_succ, List.getElem_cons_zero, List.setIfInBounds_toArray, List.set_cons_zero, List.set_cons_succ]
    refine wpAnyH_take (i := 20) (v := ?_) rfl (by kernel_rfl) (by kernel_rfl) (by kernel_rfl) (fun _ _ _ h => h) (Or.inl ⟨by rfl, ?_⟩) hHeld ?_
    rotate_left
    · intro w hSw; try dsimp only at hSw
      go_simp; try (with_reducible rfl)
    try simp only [Act.put, List.getElem_toArray, List.getElem_cons_succ, List.getElem_cons_zero, List.setIfInBounds_toArray, List.set_cons_zero, List.set_cons_succ]
    refine wpAnyH_take (i := 21) (v := ?_) rfl (by kernel_rfl) (by kernel_rfl) (by kernel_rfl) (fun _ _ _ h => h) (Or.inl ⟨by rfl, ?_⟩) hHeld ?_
    rotate_left
    · intro w hSw; try dsimp only at hSw
      go_simp; try (with_reducible rfl)
    try simp only [Act.put, List.getElem_toArray, List.getElem_cons_succ, List.getElem_cons_zero, List.setIfInBounds_toArray, List.set_cons_zero, List.set_cons_succ]
    refine wpAnyH_done (by kernel_rfl) ?_ _
    refine NoPanic.normal ?_
    have q1 := (Below.refl w1.heap.size w1).drew
    have q2 := q1.trans (h2.mono q1.size)
    have q3 := q2.trans (h5.mono q2.size)
    have q4 := q3.trans (h10.mono q3.size)
    have q5 := q4.trans (h15.mono q4.size)
    have q6 := q5.trans (h19.mono q5.size)
    have d0 := c0.kept q6
    have d1 := c1.kept q6
    have d2 := c2.kept q6
    have hB2 := bt hB1 q6
    clear hHeld q1 q2 q3 q4 q5 q6 c0 c1 c2 hB1
    go_wp2_with (first
      | (refine wpList_load_mid rfl 23 (.tmp 3) rfl w.heap.size 0 rfl [.int .i64 k, .int .i64 g, .int .i64 s, .int .i64 t] _ (d0.range 0 4 _ rfl) Try.underlying23 rfl hdr_size ?_)
      | (refine wpList_load_mid rfl 23 (.tmp 4) rfl (w.heap.size + 1) 0 rfl [.int .i64 k', .int .i64 g', .int .i64 s', .int .i64 t'] _ (d1.range 0 4 _ rfl) Try.underlying23 rfl hdr_size ?_))
    refine (hn1 _).mono ?_
    rintro e x1 ⟨rfl, y1⟩
    have hB3 := bt hB2 y1
    have e0 := d0.kept y1
    have e1 := d1.kept y1
    have e2 := d2.kept y1
    clear hB2 d0 d1 d2 y1
    go_wp2_with (first
      | (refine wpList_load_guard (by rfl) 23 (.tmp 4) rfl (w.heap.size + 1) 0 rfl [.int .i64 k', .int .i64 g', .int .i64 s', .int .i64 t'] _ (e1.range 0 4 _ rfl) Try.underlying23 rfl hdr_size ?_)
      | (refine wpList_load_guard (by rfl) 23 (.tmp 5) rfl (w.heap.size + 1 + 1) 0 rfl [.int .i64 k'', .int .i64 g'', .int .i64 s'', .int .i64 t''] _ (e2.range 0 4 _ rfl) Try.underlying23 rfl hdr_size ?_))
    refine (hn5 _).mono ?_
    rintro e x2 ⟨rfl, y2⟩
    have hB4 := bt hB3 y2
    have f0 := e0.kept y2
    have f2 := e2.kept y2
    clear hB3 e0 e1 e2 y2
    cases hbc : newB s' t' s'' t'' with
    | false =>
      go_wp2
      go_ret
      exact ⟨rfl, hB4⟩
    | true =>
      rw [HTR.out hbc] at hn6
      go_wp2_with (first
        | (refine wpList_load_guard (by rfl) 23 (.tmp 3) rfl w.heap.size 0 rfl [.int .i64 k, .int .i64 g, .int .i64 s, .int .i64 t] _ (f0.range 0 4 _ rfl) Try.underlying23 rfl hdr_size ?_)
        | (refine wpList_load_guard (by rfl) 23 (.tmp 5) rfl (w.heap.size + 1 + 1) 0 rfl [.int .i64 k'', .int .i64 g'', .int .i64 s'', .int .i64 t''] _ (f2.range 0 4 _ rfl) Try.underlying23 rfl hdr_size ?_))
      refine (hn6 _).mono ?_
      rintro e x3 ⟨rfl, y3⟩
      have hB5 := bt hB4 y3
      go_wp2
      go_ret
      exact ⟨rfl, hB5⟩
  | false =>
    rw [hab] at hn1 hn2
    clear hab hn4 hn5 hn6
    go_enter Try.func8, Try.ntmps8
    go_wp2_with fail
    refine (plive_any _).mono ?_
    rintro e w1 ⟨rfl, hb1⟩
    have hB1 := bt hbel hb1
    have c0 := b0.kept hb1
    have c1 := b1.kept hb1
    have c2 := b2.kept hb1
    clear hbel hb1 b0 b1 b2
    go_wp2_with fail
    refine wp_region_noPanic ?_
    refine wp_region_held_drew (S := fun w' => w'.cell? ⟨w.heap.size, 0, none⟩ = some (.int .i64 k) ∧ w'.cell? ⟨w.heap.size, 1, none⟩ = some (.int .i64 g) ∧ w'.cell? ⟨w.heap.size, 2, none⟩ = some (.int .i64 s) ∧ w'.cell? ⟨w.heap.size, 3, none⟩ = some (.int .i64 t) ∧ w'.cell? ⟨w.heap.size + 1, 0, none⟩ = some (.int .i64 k') ∧ w'.cell? ⟨w.heap.size + 1, 1, none⟩ = some (.int .i64 g') ∧ w'.cell? ⟨w.heap.size + 1, 2, none⟩ = some (.int .i64 s') ∧ w'.cell? ⟨w.heap.size + 1, 3, none⟩ = some (.int .i64 t')) (by kernel_rfl) ⟨c0.drew.cell' rfl, c0.drew.cell' rfl, c0.drew.cell' rfl, c0.drew.cell' rfl, c1.drew.cell' rfl, c1.drew.cell' rfl, c1.drew.cell' rfl, c1.drew.cell' rfl⟩ (fun hHeld => ?_)
    refine wpAnyH_take (i := 0) (v := ?_) rfl (by kernel_rfl) (by kernel_rfl) (by kernel_rfl) (fun _ _ _ h => h) (Or.inl ⟨by rfl, ?_⟩) hHeld ?_
    rotate_left
    · intro w hSw; try dsimp only at hSw
      go_simp; try (with_reducible rfl)
    try simp only [Act.put, List.getElem_toArray, List.getElem_cons_succ, List.getElem_cons_zero, List.setIfInBounds_toArray, List.set_cons_zero, List.set_cons_succ]
    refine wpAnyH_take (i := 1) (v := ?_) rfl (by kernel_rfl) (by kernel_rfl) (by kernel_rfl) (fun _ _ _ h => h) (Or.inl ⟨by rfl, ?_⟩) hHeld ?_
    rotate_left
    · intro w hSw; try dsimp only at hSw
      go_simp; try (with_reducible rfl)
    try simp only [Act.put, List.getElem_toArray, List.getElem_cons_succ, List.getElem_cons_zero, List.setIfInBounds_toArray, List.set_cons_zero, List.set_cons_succ]
    refine wpAnyH_take (i := 3) (v := ?_) rfl (by kernel_rfl) (by kernel_rfl) (by kernel_rfl) (fun _ _ _ h => h) (Or.inl ⟨by rfl, ?_⟩) hHeld ?_
    rotate_left
    · intro w hSw; try dsimp only at hSw
      go_simp; try (with_reducible rfl)
    try simp only [Act.put, List.getElem_toArray, List.getElem_cons_succ, List.getElem_cons_zero, List.setIfInBounds_toArray, List.set_cons_zero, List.set_cons_succ]
    refine wpAnyH_take (i := 4) (v := ?_) rfl (by kernel_rfl) (by kernel_rfl) (by kernel_rfl) (fun _ _ _ h => h) (Or.inl ⟨by rfl, ?_⟩) hHeld ?_
    rotate_left
    · intro w hSw; try dsimp only at hSw
      go_simp; try (with_reducible rfl)
    try simp only [Act.put, List.getElem_toArray, List.getElem_cons_succ, List.getElem_cons_zero, List.setIfInBounds_toArray, List.set_cons_zero, List.set_cons_succ]
    refine wpAnyH_ready (rs := [2]) (by kernel_rfl) (by simp) ?_
    refine AllReadyH.cons rfl (fun K hK => ?_) AllReadyH.nil
    go_simp
    refine (hn1 _).mono ?_
    rintro e Wh2 ⟨rfl, h2⟩
    try go_wp2_with fail
    refine hK.out _ _ (cells8_below h2 hHeld) (fun hHeld => ?_)
    clear hK K
    try simp only [Act.put, List.getElem_toArray, List.getElem_cons_succ, List.getElem_cons_zero, List.setIfInBounds_toArray, List.set_cons_zero, List.set_cons_succ]
    refine wpAnyH_ready (rs := [5]) (by kernel_rfl) (by simp) ?_
    refine AllReadyH.cons rfl (fun K hK => ?_) AllReadyH.nil
    go_simp
    refine (hn2 _).mono ?_
    rintro e Wh5 ⟨rfl, h5⟩
    try go_wp2_with fail
    refine hK.out _ _ (cells8_below h5 hHeld) (fun hHeld => ?_)
    clear hK K
    try simp only [Act.put, List.getElem_toArray, List.getElem_cons_succ, List.getElem_cons_zero, List.setIfInBounds_toArray, List.set_cons_zero, List.set_cons_succ]
    refine wpAnyH_take (i := 6) (v := ?_) rfl (by kernel_rfl) (by kernel_rfl) (by kernel_rfl) (fun _ _ _ h => h) (Or.inl ⟨by rfl, ?_⟩) hHeld ?_
    rotate_left
    · intro w hSw; try dsimp only at hSw
      go_simp; try (with_reducible rfl)
    try simp only [Act.put, List.getElem_toArray, List.getElem_cons_succ, List.getElem_cons_zero, List.setIfInBounds_toArray, List.set_cons_zero, List.set_cons_succ]
    refine wpAnyH_take (i := 7) (v := ?_) rfl (by kernel_rfl) (by kernel_rfl) (by kernel_rfl) (fun _ _ _ h => h) (Or.inl ⟨by rfl, ?_⟩) hHeld ?_
    rotate_left
    · intro w hSw; try dsimp only at hSw
      go_simp; try (with_reducible rfl)
    try simp only [Act.put, List.getElem_toArray, List.getElem_cons_succ, List.getElem_cons_zero, List.setIfInBounds_toArray, List.set_cons_zero, List.set_cons_succ]
    refine wpAnyH_take (i := 8) (v := ?_) rfl (by kernel_rfl) (by kernel_rfl) (by kernel_rfl) (fun _ _ _ h => h) (Or.inl ⟨by rfl, ?_⟩) hHeld ?_
    rotate_left
    · intro w hSw; try dsimp only at hSw
      go_simp; try (with_reducible rfl)
    try simp only [Act.put, List.getElem_toArray, List.getElem_cons_succ, List.getElem_cons_zero, List.setIfInBounds_toArray, List.set_cons_zero, List.set_cons_succ]
    refine wpAnyH_take (i := 9) (v := ?_) rfl (by kernel_rfl) (by kernel_rfl) (by kernel_rfl) (fun _ _ _ h => h) (Or.inl ⟨by rfl, ?_⟩) hHeld ?_
    rotate_left
    · intro w hSw; try dsimp only at hSw
      go_simp; try (with_reducible rfl)
    try simp only [Act.put, List.getElem_toArray, List.getElem_cons_succ, List.getElem_cons_zero, List.setIfInBounds_toArray, List.set_cons_zero, List.set_cons_succ]
    refine wpAnyH_ready (rs := [10]) (by kernel_rfl) (by simp) ?_
    refine AllReadyH.cons rfl (fun K hK => ?_) AllReadyH.nil
    go_simp
    refine (hn3 _).mono ?_
    rintro e Wh10 ⟨rfl, h10⟩
    try go_wp2_with fail
    refine hK.out _ _ (cells8_below h10 hHeld) (fun hHeld => ?_)
    clear hK K
    try simp only [Act.put, List.getElem_toArray, List.getElem_cons_succ, List.getElem_cons_zero, List.setIfInBounds_toArray, List.set_cons_zero, List.set_cons_succ]
    refine wpAnyH_take (i := 11) (v := ?_) rfl (by kernel_rfl) (by kernel_rfl) (by kernel_rfl) (fun _ _ _ h => h) (Or.inl ⟨by rfl, ?_⟩) hHeld ?_
    rotate_left
    · intro w hSw; try dsimp only at hSw
      go_simp; try (with_reducible rfl)
    try simp only [Act.put, List.getElem_toArray, List.getElem_cons_succ, List.getElem_cons_zero, List.setIfInBounds_toArray, List.set_cons_zero, List.set_cons_succ]
    refine wpAnyH_take (i := 12) (v := ?_) rfl (by kernel_rfl) (by kernel_rfl) (by kernel_rfl) (fun _ _ _ h => h) (Or.inl ⟨by rfl, ?_⟩) hHeld ?_
    rotate_left
    · intro w hSw; try dsimp only at hSw
      go_simp; try (with_reducible rfl)
    try simp only [Act.put, List.getElem_toArray, List.getElem_cons_succ, List.getElem_cons_zero, List.setIfInBounds_toArray, List.set_cons_zero, List.set_cons_succ]
    refine wpAnyH_take (i := 13) (v := ?_) rfl (by kernel_rfl) (by kernel_rfl) (by kernel_rfl) (fun _ _ _ h => h) (Or.inl ⟨by rfl, ?_⟩) hHeld ?_
    rotate_left
    · intro w hSw; try dsimp only at hSw
      go_simp; try (with_reducible rfl)
    try simp only [Act.put, List.getElem_toArray, List.getElem_cons_succ, List.getElem_cons_zero, List.setIfInBounds_toArray, List.set_cons_zero, List.set_cons_succ]
    refine wpAnyH_take (i := 14) (v := ?_) rfl (by kernel_rfl) (by kernel_rfl) (by kernel_rfl) (fun _ _ _ h => h) (Or.inl ⟨by rfl, ?_⟩) hHeld ?_
    rotate_left
    · intro w hSw; try dsimp only at hSw
      go_simp; try (with_reducible rfl)
    try simp only [Act.put, List.getElem_toArray, List.getElem_cons_succ, List.getElem_cons_zero, List.setIfInBounds_toArray, List.set_cons_zero, List.set_cons_succ]
    refine wpAnyH_ready (rs := [15]) (by kernel_rfl) (by simp) ?_
    refine AllReadyH.cons rfl (fun K hK => ?_) AllReadyH.nil
    go_simp
    refine (hn1 _).mono ?_
    rintro e Wh15 ⟨rfl, h15⟩
    try go_wp2_with fail
    refine hK.out _ _ (cells8_below h15 hHeld) (fun hHeld => ?_)
    clear hK K
    try simp only [Act.put, List.getElem_toArray, List.getElem_cons_succ, List.getElem_cons_zero, List.setIfInBounds_toArray, List.set_cons_zero, List.set_cons_succ]
    refine wpAnyH_take (i := 16) (v := ?_) rfl (by kernel_rfl) (by kernel_rfl) (by kernel_rfl) (fun _ _ _ h => h) (Or.inl ⟨by rfl, ?_⟩) hHeld ?_
    rotate_left
    · intro w hSw; try dsimp only at hSw
      go_simp; try (with_reducible rfl)
    try simp only [Act.put, List.getElem_toArray, List.getElem_cons_succ, List.getElem_cons_zero, List.setIfInBounds_toArray, List.set_cons_zero, List.set_cons_succ]
    refine wpAnyH_take (i := 17) (v := undef) rfl (by kernel_rfl) (by kernel_rfl) (by kernel_rfl) (fun _ _ _ h => h) (Or.inr ⟨by rfl, rfl⟩) hHeld ?_
    try simp only [Act.put, List.getElem_toArray, List.getElem_cons_succ, List.getElem_cons_zero, List.setIfInBounds_toArray, List.set_cons_zero, List.set_cons_succ]
    refine wpAnyH_take (i := 18) (v := undef) rfl (by kernel_rfl) (by kernel_rfl) (by kernel_rfl) (fun _ _ _ h => h) (Or.inr ⟨by rfl, rfl⟩) hHeld ?_
    try simp only [Act.put, List.getElem_toArray, List.getElem_cons_succ, List.getElem_cons_zero, List.setIfInBounds_toArray, List.set_cons_zero, List.set_cons_succ]
    refine wpAnyH_take (i := 19) (v := undef) rfl (by kernel_rfl) (by kernel_rfl) (by kernel_rfl) (fun _ _ _ h => h) (Or.inr ⟨by rfl, rfl⟩) hHeld ?_
    try simp only [Act.put, List.getElem_toArray, List.getElem_cons_succ, List.getElem_cons_zero, List.setIfInBounds_toArray, List.set_cons_zero, List.set_cons_succ]
    refine wpAnyH_take (i := 20) (v := ?_) rfl (by kernel_rfl) (by kernel_rfl) (by kernel_rfl) (fun _ _ _ h => h) (Or.inl ⟨by rfl, ?_⟩) hHeld ?_
    rotate_left
    · intro w hSw; try dsimp only at hSw
      go_simp; try (with_reducible rfl)
    try simp only [Act.put, List.getElem_toArray, List.getElem_cons_succ, List.getElem_cons_zero, List.setIfInBounds_toArray, List.set_cons_zero, List.set_cons_succ]
    refine wpAnyH_take (i := 21) (v := ?_) rfl (by kernel_rfl) (by kernel_rfl) (by kernel_rfl) (fun _ _ _ h => h) (Or.inl ⟨by rfl, ?_⟩) hHeld ?_
    rotate_left
    · intro w hSw; try dsimp only at hSw
      go_simp; try (with_reducible rfl)
    try simp only [Act.put, List.getElem_toArray, List.getElem_cons_succ, List.getElem_cons_zero, List.setIfInBounds_toArray, List.set_cons_zero, List.set_cons_succ]
    refine wpAnyH_done (by kernel_rfl) ?_ _
    refine NoPanic.normal ?_
    have q1 := (Below.refl w1.heap.size w1).drew
    have q2 := q1.trans (h2.mono q1.size)
    have q3 := q2.trans (h5.mono q2.size)
    have q4 := q3.trans (h10.mono q3.size)
    have q5 := q4.trans (h15.mono q4.size)
    have d0 := c0.kept q5
    have d1 := c1.kept q5
    have d2 := c2.kept q5
    have hB2 := bt hB1 q5
    clear hHeld q1 q2 q3 q4 q5 c0 c1 c2 hB1
    go_wp2_with (first
      | (refine wpList_load_mid rfl 23 (.tmp 3) rfl w.heap.size 0 rfl [.int .i64 k, .int .i64 g, .int .i64 s, .int .i64 t] _ (d0.range 0 4 _ rfl) Try.underlying23 rfl hdr_size ?_)
      | (refine wpList_load_mid rfl 23 (.tmp 4) rfl (w.heap.size + 1) 0 rfl [.int .i64 k', .int .i64 g', .int .i64 s', .int .i64 t'] _ (d1.range 0 4 _ rfl) Try.underlying23 rfl hdr_size ?_))
    refine (hn1 _).mono ?_
    rintro e x1 ⟨rfl, y1⟩
    have hB3 := bt hB2 y1
    have e0 := d0.kept y1
    have e1 := d1.kept y1
    have e2 := d2.kept y1
    clear hB2 d0 d1 d2 y1
    go_wp2
    go_ret
    exact ⟨rfl, hB3⟩
set_option maxRecDepth 100000 in
theorem newer_lifted (os : Os) (started : os.Started) (H : Type) (enc : TypeId × Value → H) :
    ReturnsInHanded {} Try.checked os 8 .any (Rows.pageNewerSpec.pre6 enc Try.prog Try.f8 Rows.pageNewerRow.domain false) (Rows.pageNewerSpec.post enc Try.prog Try.f8 false true false false) := by
  refine returnsInHanded_of_change_sized (C := Try.checked) own started (by kernel_rfl) Try.func8
    (ChangeSpec.witness6 (enc := enc) (C := Try.checked) false ⟨#[], #[.agg #[.int .i64 0, .int .i64 0, .int .i64 0, .int .i64 0], .agg #[.int .i64 0, .int .i64 0, .int .i64 0, .int .i64 0], .agg #[.int .i64 0, .int .i64 0, .int .i64 0, .int .i64 0]], []⟩ 8 (by kernel_rfl) (by kernel_rfl) (by kernel_rfl) (by kernel_rfl)) ?_
  intro W base args ds gs before hval0 hW hcnd hsz0 _
  have hval : ∀ (j : Nat) t v, Try.f8.params[j]? = some t → args[j]? = some v → Value.okWide Try.prog W .any base t v := hval0
  have hsz : (DataW.weightsEach Try.prog (Try.f8.params.toList ++ Rows.pageNewerSpec.plain.varTypes Try.prog) (ds ++ gs)).all (· ≤ reachBytes) = true := hsz0
  have hW' := hW
  obtain ⟨p, q, hA0, hV, rfl, hfz, hnd⟩ := hW
  have hA : DataW.TrodAll enc Try.prog W 0 (fun _ => true) true Try.f8.params.toList args.toList ds p := hA0
  rw [Try.params8] at hA hval hsz
  obtain ⟨v0, vs0, d0, ds0, p0, q0, hargs, rfl, rfl, h0, r0⟩ := trodAll_cons hA
  obtain ⟨v1, vs1, d1, ds1, p1, q1, rfl, rfl, rfl, h1, r1⟩ := trodAll_cons r0
  obtain ⟨v2, vs2, d2, ds2, p2, q2, rfl, rfl, rfl, h2, r2⟩ := trodAll_cons r1
  obtain ⟨rfl, rfl, rfl⟩ := trodAll_nil r2
  obtain rfl : args = #[v0, v1, v2] := by cases args; simp_all
  obtain ⟨rfl, rfl⟩ := trodVars_none hV
  obtain ⟨k, g, s, t, rfl⟩ := okHdr (hval 0 23 v0 rfl rfl)
  have lt0 : ∀ x ∈ p0, x.block < W.heap.size := by obtain ⟨m, hm⟩ := h0; exact DataW.trod_lt m _ _ _ hm
  obtain ⟨k', g', s', t', rfl⟩ := okHdr (hval 1 23 v1 rfl rfl)
  have lt1 : ∀ x ∈ p1, x.block < W.heap.size := by obtain ⟨m, hm⟩ := h1; exact DataW.trod_lt m _ _ _ hm
  obtain ⟨k'', g'', s'', t'', rfl⟩ := okHdr (hval 2 23 v2 rfl rfl)
  have lt2 : ∀ x ∈ p2, x.block < W.heap.size := by obtain ⟨m, hm⟩ := h2; exact DataW.trod_lt m _ _ _ hm
  clear hA0 hval0 hsz0
  refine (newer_walk k g s t k' g' s' t' k'' g'' s'' t'' W).mono fun e W' ⟨he, bel⟩ => ?_
  subst he
  exact ⟨_, rfl, _, _, _, [], _, [], hW', trodAll_mk1 (shut_bool Try.underlying4 _), (trodAll_cons_mk (Below.trod laidOut (by kernel_rfl) (of_decide_eq_true (by kernel_rfl)) h0 bel lt0) (trodAll_cons_mk (Below.trod laidOut (by kernel_rfl) (of_decide_eq_true (by kernel_rfl)) h1 bel lt1) (trodAll_cons_mk (Below.trod laidOut (by kernel_rfl) (of_decide_eq_true (by kernel_rfl)) h2 bel lt2) trodAll_mk0))), rfl, bel.frame _, fun h => by cases h⟩
theorem pageNewer_holds : Rows.PageNewerSaid :=
  OpenClaim.holds_of_wide 8 Try.f8 rfl rfl rfl rfl rfl rfl rfl ⟨rfl, rfl, rfl, rfl, rfl⟩ rfl rfl rfl rfl rfl (by kernel_rfl) Try.func8 (by kernel_rfl)
    (of_decide_eq_true (by kernel_rfl)) (by unfold Func.isWrapper; first | (rw [if_pos (by decide +kernel)]; kernel_rfl) | (rw [if_neg (by decide +kernel)]; exact ⟨rfl, rfl⟩))
    (fun os started H enc _ => newer_lifted os started H enc)
#print axioms pageNewer_holds
end Go.Proofs.Ytmagcohdhljaeaa
