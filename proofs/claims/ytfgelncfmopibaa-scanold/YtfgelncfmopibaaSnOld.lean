/-
  P7.5, ScanOld: what is older than something of the same page, wherever it stands, changes nothing of Newest; nor does a copy of it with a greater Stamp.
-/
import Derived.Test.YtfgelncfmopibaaSnNewR
namespace Go.Proofs.Ytfgelncfmopibaa
open Go.RowKit
theorem InF.elem {w : World} {b o n c k : Nat} {xs : List Fd} (h : InF w (some ⟨b, o, none⟩) n c xs) (hk : k < n) : w.cell? ⟨b, o + k * 6, none⟩ = some (.int .i64 (eF xs k).ph) ∧ w.cell? ⟨b, o + k * 6 + 1, none⟩ = some (.int .i64 (eF xs k).pg) ∧ w.cell? ⟨b, o + k * 6 + 2, none⟩ = some (.int .i64 (eF xs k).k) ∧ w.cell? ⟨b, o + k * 6 + 3, none⟩ = some (.int .i64 (eF xs k).p) ∧ w.cell? ⟨b, o + k * 6 + 4, none⟩ = some (.int .i64 (eF xs k).s) ∧ w.cell? ⟨b, o + k * 6 + 5, none⟩ = some (.int .i64 (eF xs k).t) := by
  obtain ⟨b', o', e, _, hc⟩ := h.at' (by omega)
  cases e
  exact hc k hk
theorem foundOne (l : List Int) : ∀ v ∈ l.map (fun i => Value.int .i64 i), v.oneCell' = true := by
  intro v hv
  obtain ⟨_, _, rfl⟩ := List.mem_map.1 hv
  rfl
set_option linter.unusedSimpArgs false in
set_option maxRecDepth 100000 in
set_option maxHeartbeats 8000000 in
theorem scanOld_true (P Lg K : Int) (p q : Option Addr) (n c m d : Nat) (xs : List Fd) (wh : Nat) (hwh : wh < 256) (ph pg : Int) (by' : Nat) (hby : by' < 256) (w : World) (hx : InF w p n c xs) :
    Calls Try.prog 8 #[.agg #[.int .i64 P, .int .i64 Lg, .int .i64 K, .slice p n c, .slice q m d], .agg #[.int .u8 (wh : Int), .int .i64 ph, .int .i64 pg, .int .u8 (by' : Int)]] w fun e w' => e = .returned (.bool true) ∧ Below w.heap.size w w' := by
  have hb0 := bt (below_alloc w (.cells #[.int .i64 P, .int .i64 Lg, .int .i64 K, .slice p n c, .slice q m d] 39)) (below_alloc _ (.cells #[.int .u8 (wh : Int), .int .i64 ph, .int .i64 pg, .int .u8 (by' : Int)] 68))
  have b2 := (Blk.new' w 39 #[.int .i64 P, .int .i64 Lg, .int .i64 K, .slice p n c, .slice q m d]).alloc (.cells #[.int .u8 (wh : Int), .int .i64 ph, .int .i64 pg, .int .u8 (by' : Int)] 68)
  have b3 := Blk.new' (w.alloc (.cells #[.int .i64 P, .int .i64 Lg, .int .i64 K, .slice p n c, .slice q m d] 39)) 68 #[.int .u8 (wh : Int), .int .i64 ph, .int .i64 pg, .int .u8 (by' : Int)]
  rw [World.size_alloc] at b3
  have hwi : (wh : Int) ≤ 255 := by omega
  have hbi : (by' : Int) ≤ 255 := by omega
  cases hf : fewB n m Lg with
  | false =>
    go_enter Try.func8, Try.ntmps8
    go_upto_region 1 with (fail)
    generalize (w.alloc (.cells #[.int .i64 P, .int .i64 Lg, .int .i64 K, .slice p n c, .slice q m d] 39)).alloc (.cells #[.int .u8 (wh : Int), .int .i64 ph, .int .i64 pg, .int .u8 (by' : Int)] 68) = W0 at *
    go_wp2_with (first | (go_at_call 9; refine (live_any _).mono ?_; rintro e w1 ⟨rfl, hbn⟩; replace b2 := b2.kept hbn; replace b3 := b3.kept hbn; replace hb0 := bt hb0 hbn; clear hbn; have c0 := b2.cell' (i := 0) rfl; have c1 := b2.cell' (i := 1) rfl; have c2 := b2.cell' (i := 2) rfl; have c3 := b2.cell' (i := 3) rfl; have c4 := b2.cell' (i := 4) rfl; have o0 := b3.cell' (i := 0) rfl; have o1 := b3.cell' (i := 1) rfl; have o2 := b3.cell' (i := 2) rfl; have o3 := b3.cell' (i := 3) rfl) | (go_at_call 13; refine (few_any _ _ _ _ _ _ _ _ _ _).mono ?_; rintro e w1 ⟨rfl, hbn⟩; replace b2 := b2.kept hbn; replace b3 := b3.kept hbn; replace hb0 := bt hb0 hbn; clear hbn; have c0 := b2.cell' (i := 0) rfl; have c1 := b2.cell' (i := 1) rfl; have c2 := b2.cell' (i := 2) rfl; have c3 := b2.cell' (i := 3) rfl; have c4 := b2.cell' (i := 4) rfl; have o0 := b3.cell' (i := 0) rfl; have o1 := b3.cell' (i := 1) rfl; have o2 := b3.cell' (i := 2) rfl; have o3 := b3.cell' (i := 3) rfl))
    go_ret
    exact ⟨rfl, hb0⟩
  | true =>
    by_cases hn : n = 0
    · subst hn
      go_enter Try.func8, Try.ntmps8
      go_upto_region 1 with (fail)
      generalize (w.alloc (.cells #[.int .i64 P, .int .i64 Lg, .int .i64 K, .slice p 0 c, .slice q m d] 39)).alloc (.cells #[.int .u8 (wh : Int), .int .i64 ph, .int .i64 pg, .int .u8 (by' : Int)] 68) = W0 at *
      go_wp2_with (first | (go_at_call 9; refine (live_any _).mono ?_; rintro e w1 ⟨rfl, hbn⟩; replace b2 := b2.kept hbn; replace b3 := b3.kept hbn; replace hb0 := bt hb0 hbn; clear hbn; have c0 := b2.cell' (i := 0) rfl; have c1 := b2.cell' (i := 1) rfl; have c2 := b2.cell' (i := 2) rfl; have c3 := b2.cell' (i := 3) rfl; have c4 := b2.cell' (i := 4) rfl; have o0 := b3.cell' (i := 0) rfl; have o1 := b3.cell' (i := 1) rfl; have o2 := b3.cell' (i := 2) rfl; have o3 := b3.cell' (i := 3) rfl) | (go_at_call 13; refine (few_any _ _ _ _ _ _ _ _ _ _).mono ?_; rintro e w1 ⟨rfl, hbn⟩; replace b2 := b2.kept hbn; replace b3 := b3.kept hbn; replace hb0 := bt hb0 hbn; clear hbn; have c0 := b2.cell' (i := 0) rfl; have c1 := b2.cell' (i := 1) rfl; have c2 := b2.cell' (i := 2) rfl; have c3 := b2.cell' (i := 3) rfl; have c4 := b2.cell' (i := 4) rfl; have o0 := b3.cell' (i := 0) rfl; have o1 := b3.cell' (i := 1) rfl; have o2 := b3.cell' (i := 2) rfl; have o3 := b3.cell' (i := 3) rfl))
      go_ret
      exact ⟨rfl, hb0⟩
    · have hn80 : n ≤ 80 := by
        unfold fewB at hf
        simp only [Bool.and_eq_true, decide_eq_true_eq] at hf
        omega
      obtain ⟨b, o, rfl, hbl, -⟩ := hx.at' (by omega)
      have hnI : ((n : Int) == 0) = false := by rw [beq_eq_false_iff_ne]; omega
      have hwr : IntKind.i64.wrap (wh : Int) = (wh : Int) := by rw [IntKind.wrap_i64]; omega
      obtain ⟨k, Hk⟩ : ∃ k, k = wh % n := ⟨_, rfl⟩
      have hkn : k < n := by rw [Hk]; exact Nat.mod_lt _ (by omega)
      have htm : (wh : Int).tmod (n : Int) = (k : Int) := by rw [Hk]; rfl
      clear Hk
      have hki : (k : Int) < (n : Int) := by omega
      have hnb : (n : Int) ≤ 80 := by omega
      have hel := fun W (h : Below w.heap.size w W) => (hx.below h).elem hkn
      have hmem : eF xs k ∈ xs := eF_mem (by rw [hx.len]; exact hkn)
      generalize eF xs k = x at *
      obtain ⟨xh, xg, xk, xp, xs', xt⟩ := x
      dsimp only at hel
      go_enter Try.func8, Try.ntmps8
      go_upto_region 1 with (fail)
      generalize (w.alloc (.cells #[.int .i64 P, .int .i64 Lg, .int .i64 K, .slice (some ⟨b, o, none⟩) n c, .slice q m d] 39)).alloc (.cells #[.int .u8 (wh : Int), .int .i64 ph, .int .i64 pg, .int .u8 (by' : Int)] 68) = W0 at *
      go_upto_region 5 with (first | (go_at_call 9; refine (live_any _).mono ?_; rintro e w1 ⟨rfl, hbn⟩; replace b2 := b2.kept hbn; replace b3 := b3.kept hbn; replace hb0 := bt hb0 hbn; clear hbn; have c0 := b2.cell' (i := 0) rfl; have c1 := b2.cell' (i := 1) rfl; have c2 := b2.cell' (i := 2) rfl; have c3 := b2.cell' (i := 3) rfl; have c4 := b2.cell' (i := 4) rfl; have o0 := b3.cell' (i := 0) rfl; have o1 := b3.cell' (i := 1) rfl; have o2 := b3.cell' (i := 2) rfl; have o3 := b3.cell' (i := 3) rfl) | (go_at_call 13; refine (few_any _ _ _ _ _ _ _ _ _ _).mono ?_; rintro e w1 ⟨rfl, hbn⟩; replace b2 := b2.kept hbn; replace b3 := b3.kept hbn; replace hb0 := bt hb0 hbn; clear hbn; have c0 := b2.cell' (i := 0) rfl; have c1 := b2.cell' (i := 1) rfl; have c2 := b2.cell' (i := 2) rfl; have c3 := b2.cell' (i := 3) rfl; have c4 := b2.cell' (i := 4) rfl; have o0 := b3.cell' (i := 0) rfl; have o1 := b3.cell' (i := 1) rfl; have o2 := b3.cell' (i := 2) rfl; have o3 := b3.cell' (i := 3) rfl))
      clear c0 c1 c2 c3 c4 o0 o1 o2 o3
      refine wp_region_noPanic ?_
      refine wp_region_held_drew (S := fun W => Blk W w.heap.size 39 [.int .i64 P, .int .i64 Lg, .int .i64 K, .slice (some ⟨b, o, none⟩) n c, .slice q m d] ∧ Blk W (w.heap.size + 1) 68 [.int .u8 (wh : Int), .int .i64 ph, .int .i64 pg, .int .u8 (by' : Int)] ∧ Below w.heap.size w W) (by kernel_rfl) ⟨b2.drew, b3.drew, hb0.drew⟩ (fun hHeld => ?_)
      refine wpAnyH_take (i := 0) (v := ?_) rfl (by kernel_rfl) (by kernel_rfl) (by kernel_rfl) (fun _ _ _ h => h) (Or.inl ⟨by rfl, ?_⟩) hHeld ?_
      rotate_left
      · intro w' hSw; try dsimp only at hSw
        go_simp; try (with_reducible rfl)
      try simp only [Act.put, List.getElem_toArray, List.getElem_cons_succ, List.getElem_cons_zero, List.setIfInBounds_toArray, List.set_cons_zero, List.set_cons_succ]
      refine wpAnyH_take (i := 1) (v := ?_) rfl (by kernel_rfl) (by kernel_rfl) (by kernel_rfl) (fun _ _ _ h => h) (Or.inl ⟨by rfl, ?_⟩) hHeld ?_
      rotate_left
      · intro w' hSw; try dsimp only at hSw
        obtain ⟨g2, g3, hbw⟩ := hSw
        obtain ⟨e0, e1, e2, e3, e4, e5⟩ := hel _ hbw
        have c0 := g2.cell' (i := 0) rfl
        have c1 := g2.cell' (i := 1) rfl
        have c3 := g2.cell' (i := 3) rfl
        have o0 := g3.cell' (i := 0) rfl
        have o1 := g3.cell' (i := 1) rfl
        have o2 := g3.cell' (i := 2) rfl
        have o3 := g3.cell' (i := 3) rfl
        go_simp; try (with_reducible rfl)
      try simp only [Act.put, List.getElem_toArray, List.getElem_cons_succ, List.getElem_cons_zero, List.setIfInBounds_toArray, List.set_cons_zero, List.set_cons_succ]
      refine wpAnyH_take (i := 2) (v := ?_) rfl (by kernel_rfl) (by kernel_rfl) (by kernel_rfl) (fun _ _ _ h => h) (Or.inl ⟨by rfl, ?_⟩) hHeld ?_
      rotate_left
      · intro w' hSw; try dsimp only at hSw
        go_simp; try (with_reducible rfl)
      try simp only [Act.put, List.getElem_toArray, List.getElem_cons_succ, List.getElem_cons_zero, List.setIfInBounds_toArray, List.set_cons_zero, List.set_cons_succ]
      refine wpAnyH_take (i := 3) (v := ?_) rfl (by kernel_rfl) (by kernel_rfl) (by kernel_rfl) (fun _ _ _ h => h) (Or.inl ⟨by rfl, ?_⟩) hHeld ?_
      rotate_left
      · intro w' hSw; try dsimp only at hSw
        obtain ⟨g2, g3, hbw⟩ := hSw
        obtain ⟨e0, e1, e2, e3, e4, e5⟩ := hel _ hbw
        have c0 := g2.cell' (i := 0) rfl
        have c1 := g2.cell' (i := 1) rfl
        have c3 := g2.cell' (i := 3) rfl
        have o0 := g3.cell' (i := 0) rfl
        have o1 := g3.cell' (i := 1) rfl
        have o2 := g3.cell' (i := 2) rfl
        have o3 := g3.cell' (i := 3) rfl
        go_simp; try (with_reducible rfl)
      try simp only [Act.put, List.getElem_toArray, List.getElem_cons_succ, List.getElem_cons_zero, List.setIfInBounds_toArray, List.set_cons_zero, List.set_cons_succ]
      refine wpAnyH_take (i := 4) (v := ?_) rfl (by kernel_rfl) (by kernel_rfl) (by kernel_rfl) (fun _ _ _ h => h) (Or.inl ⟨by rfl, ?_⟩) hHeld ?_
      rotate_left
      · intro w' hSw; try dsimp only at hSw
        go_simp; try (with_reducible rfl)
      try simp only [Act.put, List.getElem_toArray, List.getElem_cons_succ, List.getElem_cons_zero, List.setIfInBounds_toArray, List.set_cons_zero, List.set_cons_succ]
      refine wpAnyH_take (i := 5) (v := ?_) rfl (by kernel_rfl) (by kernel_rfl) (by kernel_rfl) (fun _ _ _ h => h) (Or.inl ⟨by rfl, ?_⟩) hHeld ?_
      rotate_left
      · intro w' hSw; try dsimp only at hSw
        go_simp; try (with_reducible rfl)
      try simp only [Act.put, List.getElem_toArray, List.getElem_cons_succ, List.getElem_cons_zero, List.setIfInBounds_toArray, List.set_cons_zero, List.set_cons_succ]
      refine wpAnyH_take (i := 6) (v := ?_) rfl (by kernel_rfl) (by kernel_rfl) (by kernel_rfl) (fun _ _ _ h => h) (Or.inl ⟨by rfl, ?_⟩) hHeld ?_
      rotate_left
      · intro w' hSw; try dsimp only at hSw
        obtain ⟨g2, g3, hbw⟩ := hSw
        obtain ⟨e0, e1, e2, e3, e4, e5⟩ := hel _ hbw
        have c0 := g2.cell' (i := 0) rfl
        have c1 := g2.cell' (i := 1) rfl
        have c3 := g2.cell' (i := 3) rfl
        have o0 := g3.cell' (i := 0) rfl
        have o1 := g3.cell' (i := 1) rfl
        have o2 := g3.cell' (i := 2) rfl
        have o3 := g3.cell' (i := 3) rfl
        go_simp; try (with_reducible rfl)
      try simp only [Act.put, List.getElem_toArray, List.getElem_cons_succ, List.getElem_cons_zero, List.setIfInBounds_toArray, List.set_cons_zero, List.set_cons_succ]
      refine wpAnyH_take (i := 7) (v := ?_) rfl (by kernel_rfl) (by kernel_rfl) (by kernel_rfl) (fun _ _ _ h => h) (Or.inl ⟨by rfl, ?_⟩) hHeld ?_
      rotate_left
      · intro w' hSw; try dsimp only at hSw
        go_simp; try (with_reducible rfl)
      try simp only [Act.put, List.getElem_toArray, List.getElem_cons_succ, List.getElem_cons_zero, List.setIfInBounds_toArray, List.set_cons_zero, List.set_cons_succ]
      refine wpAnyH_take (i := 8) (v := ?_) rfl (by kernel_rfl) (by kernel_rfl) (by kernel_rfl) (fun _ _ _ h => h) (Or.inl ⟨by rfl, ?_⟩) hHeld ?_
      rotate_left
      · intro w' hSw; try dsimp only at hSw
        go_simp; try (with_reducible rfl)
      try simp only [Act.put, List.getElem_toArray, List.getElem_cons_succ, List.getElem_cons_zero, List.setIfInBounds_toArray, List.set_cons_zero, List.set_cons_succ]
      refine wpAnyH_take (i := 9) (v := ?_) rfl (by kernel_rfl) (by kernel_rfl) (by kernel_rfl) (fun _ _ _ h => h) (Or.inl ⟨by rfl, ?_⟩) hHeld ?_
      rotate_left
      · intro w' hSw; try dsimp only at hSw
        go_simp; try (with_reducible rfl)
      try simp only [Act.put, List.getElem_toArray, List.getElem_cons_succ, List.getElem_cons_zero, List.setIfInBounds_toArray, List.set_cons_zero, List.set_cons_succ]
      refine wpAnyH_take (i := 10) (v := ?_) rfl (by kernel_rfl) (by kernel_rfl) (by kernel_rfl) (fun _ _ _ h => h) (Or.inl ⟨by rfl, ?_⟩) hHeld ?_
      rotate_left
      · intro w' hSw; try dsimp only at hSw
        obtain ⟨g2, g3, hbw⟩ := hSw
        obtain ⟨e0, e1, e2, e3, e4, e5⟩ := hel _ hbw
        have c0 := g2.cell' (i := 0) rfl
        have c1 := g2.cell' (i := 1) rfl
        have c3 := g2.cell' (i := 3) rfl
        have o0 := g3.cell' (i := 0) rfl
        have o1 := g3.cell' (i := 1) rfl
        have o2 := g3.cell' (i := 2) rfl
        have o3 := g3.cell' (i := 3) rfl
        go_simp; try (with_reducible rfl)
      try simp only [Act.put, List.getElem_toArray, List.getElem_cons_succ, List.getElem_cons_zero, List.setIfInBounds_toArray, List.set_cons_zero, List.set_cons_succ]
      refine wpAnyH_ready (rs := [11]) (by kernel_rfl) (by simp) ?_
      refine AllReadyH.cons rfl (fun K hK => ?_) AllReadyH.nil
      go_simp
      refine hK.out _ _ ⟨hHeld.1.alloc _, hHeld.2.1.alloc _, bt hHeld.2.2 (below_alloc _ _)⟩ (fun hHeld => ?_)
      clear hK K
      try simp only [Act.put, List.getElem_toArray, List.getElem_cons_succ, List.getElem_cons_zero, List.setIfInBounds_toArray, List.set_cons_zero, List.set_cons_succ]
      have n5 := (Blk.new' w1 33 #[.int .i64 0, .int .i64 0, .int .i64 0, .int .i64 0, .int .i64 0, .int .i64 0]).drew
      have hz5 : w.heap.size + 1 < w1.heap.size := b3.lt
      obtain ⟨g5, Hg5⟩ : ∃ g, g = w1.heap.size := ⟨_, rfl⟩
      rw [← Hg5] at n5 hz5 ⊢
      clear Hg5 b2 b3 hb0
      generalize (w1.alloc (.cells #[.int .i64 0, .int .i64 0, .int .i64 0, .int .i64 0, .int .i64 0, .int .i64 0] 33)).drew = W1 at *
      refine wpAnyH_ready (rs := [12]) (by kernel_rfl) (by simp) ?_
      refine AllReadyH.cons rfl (fun K hK => ?_) AllReadyH.nil
      rw [if_pos (by rfl)]
      refine wp_store_blk 33 (.tmp 5) (.tmp 29) rfl g5 0 [.int .i64 xh, .int .i64 xg, .int .i64 xk, .int .i64 xp, .int .i64 xs', .int .i64 xt] rfl rfl n5 (by exact Nat.le_refl _) (by show _ = some 6; kernel_rfl) (foundOne [xh, xg, xk, xp, xs', xt]) ?_
      intro W9 b5 ht9
      replace b5 : Blk W9 g5 33 [.int .i64 xh, .int .i64 xg, .int .i64 xk, .int .i64 xp, .int .i64 xs', .int .i64 xt] := b5
      refine hK.out _ _ ⟨hHeld.1.turned ht9 (by omega), hHeld.2.1.turned ht9 (by omega), ht9.below hHeld.2.2 (by omega)⟩ (fun hHeld => ?_)
      clear hK K
      try simp only [Act.put, List.getElem_toArray, List.getElem_cons_succ, List.getElem_cons_zero, List.setIfInBounds_toArray, List.set_cons_zero, List.set_cons_succ]
      refine wpAnyH_done (by kernel_rfl) ?_ _
      refine NoPanic.normal ?_
      obtain ⟨b2, b3, hb0⟩ := hHeld
      have c0 := b2.cell' (i := 0) rfl; have c1 := b2.cell' (i := 1) rfl; have c2 := b2.cell' (i := 2) rfl; have c3 := b2.cell' (i := 3) rfl; have c4 := b2.cell' (i := 4) rfl; have o0 := b3.cell' (i := 0) rfl; have o1 := b3.cell' (i := 1) rfl; have o2 := b3.cell' (i := 2) rfl; have o3 := b3.cell' (i := 3) rfl; have x0 := b5.cell' (i := 0) rfl; have x1 := b5.cell' (i := 1) rfl; have x2 := b5.cell' (i := 2) rfl; have x3 := b5.cell' (i := 3) rfl; have x4 := b5.cell' (i := 4) rfl; have x5 := b5.cell' (i := 5) rfl
      clear n5 ht9
      cases hch : chkB xk xp xs' xt with
      | false =>
        have hE : chkE xk xp xs' xt = 30 := by simp [chkE, hch]
        go_wp2_with (go_at_call 31; refine (r03check_any _ _ _ _ _).mono ?_; rintro e w1 ⟨rfl, hbn⟩; replace b2 := b2.kept hbn; replace b3 := b3.kept hbn; replace b5 := b5.kept hbn; replace hb0 := bt hb0 hbn; clear hbn; have c0 := b2.cell' (i := 0) rfl; have c1 := b2.cell' (i := 1) rfl; have c2 := b2.cell' (i := 2) rfl; have c3 := b2.cell' (i := 3) rfl; have c4 := b2.cell' (i := 4) rfl; have o0 := b3.cell' (i := 0) rfl; have o1 := b3.cell' (i := 1) rfl; have o2 := b3.cell' (i := 2) rfl; have o3 := b3.cell' (i := 3) rfl; have x0 := b5.cell' (i := 0) rfl; have x1 := b5.cell' (i := 1) rfl; have x2 := b5.cell' (i := 2) rfl; have x3 := b5.cell' (i := 3) rfl; have x4 := b5.cell' (i := 4) rfl; have x5 := b5.cell' (i := 5) rfl)
        go_ret
        exact ⟨rfl, hb0⟩
      | true =>
        have hE : chkE xk xp xs' xt = 0 := by simp [chkE, hch]
        by_cases h3 : xk = 3
        · have h4 : (xk == 3) = true := by rw [h3]; rfl
          clear h3
          go_wp2_with (go_at_call 31; refine (r03check_any _ _ _ _ _).mono ?_; rintro e w1 ⟨rfl, hbn⟩; replace b2 := b2.kept hbn; replace b3 := b3.kept hbn; replace b5 := b5.kept hbn; replace hb0 := bt hb0 hbn; clear hbn; have c0 := b2.cell' (i := 0) rfl; have c1 := b2.cell' (i := 1) rfl; have c2 := b2.cell' (i := 2) rfl; have c3 := b2.cell' (i := 3) rfl; have c4 := b2.cell' (i := 4) rfl; have o0 := b3.cell' (i := 0) rfl; have o1 := b3.cell' (i := 1) rfl; have o2 := b3.cell' (i := 2) rfl; have o3 := b3.cell' (i := 3) rfl; have x0 := b5.cell' (i := 0) rfl; have x1 := b5.cell' (i := 1) rfl; have x2 := b5.cell' (i := 2) rfl; have x3 := b5.cell' (i := 3) rfl; have x4 := b5.cell' (i := 4) rfl; have x5 := b5.cell' (i := 5) rfl)
          go_ret
          exact ⟨rfl, hb0⟩
        have h4 : (xk == 3) = false := by rw [beq_eq_false_iff_ne]; exact h3
        by_cases h5 : xh < 0
        · go_wp2_with (go_at_call 31; refine (r03check_any _ _ _ _ _).mono ?_; rintro e w1 ⟨rfl, hbn⟩; replace b2 := b2.kept hbn; replace b3 := b3.kept hbn; replace b5 := b5.kept hbn; replace hb0 := bt hb0 hbn; clear hbn; have c0 := b2.cell' (i := 0) rfl; have c1 := b2.cell' (i := 1) rfl; have c2 := b2.cell' (i := 2) rfl; have c3 := b2.cell' (i := 3) rfl; have c4 := b2.cell' (i := 4) rfl; have o0 := b3.cell' (i := 0) rfl; have o1 := b3.cell' (i := 1) rfl; have o2 := b3.cell' (i := 2) rfl; have o3 := b3.cell' (i := 3) rfl; have x0 := b5.cell' (i := 0) rfl; have x1 := b5.cell' (i := 1) rfl; have x2 := b5.cell' (i := 2) rfl; have x3 := b5.cell' (i := 3) rfl; have x4 := b5.cell' (i := 4) rfl; have x5 := b5.cell' (i := 5) rfl)
          go_ret
          exact ⟨rfl, hb0⟩
        by_cases h6 : 256 ≤ xh
        · go_wp2_with (go_at_call 31; refine (r03check_any _ _ _ _ _).mono ?_; rintro e w1 ⟨rfl, hbn⟩; replace b2 := b2.kept hbn; replace b3 := b3.kept hbn; replace b5 := b5.kept hbn; replace hb0 := bt hb0 hbn; clear hbn; have c0 := b2.cell' (i := 0) rfl; have c1 := b2.cell' (i := 1) rfl; have c2 := b2.cell' (i := 2) rfl; have c3 := b2.cell' (i := 3) rfl; have c4 := b2.cell' (i := 4) rfl; have o0 := b3.cell' (i := 0) rfl; have o1 := b3.cell' (i := 1) rfl; have o2 := b3.cell' (i := 2) rfl; have o3 := b3.cell' (i := 3) rfl; have x0 := b5.cell' (i := 0) rfl; have x1 := b5.cell' (i := 1) rfl; have x2 := b5.cell' (i := 2) rfl; have x3 := b5.cell' (i := 3) rfl; have x4 := b5.cell' (i := 4) rfl; have x5 := b5.cell' (i := 5) rfl)
          go_ret
          exact ⟨rfl, hb0⟩
        by_cases h7 : xg < 0
        · go_wp2_with (go_at_call 31; refine (r03check_any _ _ _ _ _).mono ?_; rintro e w1 ⟨rfl, hbn⟩; replace b2 := b2.kept hbn; replace b3 := b3.kept hbn; replace b5 := b5.kept hbn; replace hb0 := bt hb0 hbn; clear hbn; have c0 := b2.cell' (i := 0) rfl; have c1 := b2.cell' (i := 1) rfl; have c2 := b2.cell' (i := 2) rfl; have c3 := b2.cell' (i := 3) rfl; have c4 := b2.cell' (i := 4) rfl; have o0 := b3.cell' (i := 0) rfl; have o1 := b3.cell' (i := 1) rfl; have o2 := b3.cell' (i := 2) rfl; have o3 := b3.cell' (i := 3) rfl; have x0 := b5.cell' (i := 0) rfl; have x1 := b5.cell' (i := 1) rfl; have x2 := b5.cell' (i := 2) rfl; have x3 := b5.cell' (i := 3) rfl; have x4 := b5.cell' (i := 4) rfl; have x5 := b5.cell' (i := 5) rfl)
          go_ret
          exact ⟨rfl, hb0⟩
        by_cases h8 : P ≤ xg
        · go_wp2_with (go_at_call 31; refine (r03check_any _ _ _ _ _).mono ?_; rintro e w1 ⟨rfl, hbn⟩; replace b2 := b2.kept hbn; replace b3 := b3.kept hbn; replace b5 := b5.kept hbn; replace hb0 := bt hb0 hbn; clear hbn; have c0 := b2.cell' (i := 0) rfl; have c1 := b2.cell' (i := 1) rfl; have c2 := b2.cell' (i := 2) rfl; have c3 := b2.cell' (i := 3) rfl; have c4 := b2.cell' (i := 4) rfl; have o0 := b3.cell' (i := 0) rfl; have o1 := b3.cell' (i := 1) rfl; have o2 := b3.cell' (i := 2) rfl; have o3 := b3.cell' (i := 3) rfl; have x0 := b5.cell' (i := 0) rfl; have x1 := b5.cell' (i := 1) rfl; have x2 := b5.cell' (i := 2) rfl; have x3 := b5.cell' (i := 3) rfl; have x4 := b5.cell' (i := 4) rfl; have x5 := b5.cell' (i := 5) rfl)
          go_ret
          exact ⟨rfl, hb0⟩
        have hcnt : cntB P ⟨xh, xg, xk, xp, xs', xt⟩ = true := by
          unfold cntB onB
          simp only [Bool.and_eq_true, decide_eq_true_eq, hch, Bool.not_eq_true', beq_eq_false_iff_ne]
          exact ⟨⟨trivial, h3⟩, by omega, by omega, by omega, by omega⟩
        have hbd : 1 ≤ xs' ∧ xs' ≤ 1152921504606846976 ∧ xs' ≤ xt ∧ xt ≤ 1152921504606846976 := by
          unfold chkB at hch
          simp only [decide_eq_true_eq] at hch
          omega
        obtain ⟨hs1, hs2, ht1, ht2⟩ := hbd
        have hxt0 : 0 ≤ xt := by omega
        clear h3 hch
        go_upto_region 8 with (go_at_call 31; refine (r03check_any _ _ _ _ _).mono ?_; rintro e w1 ⟨rfl, hbn⟩; replace b2 := b2.kept hbn; replace b3 := b3.kept hbn; replace b5 := b5.kept hbn; replace hb0 := bt hb0 hbn; clear hbn; have c0 := b2.cell' (i := 0) rfl; have c1 := b2.cell' (i := 1) rfl; have c2 := b2.cell' (i := 2) rfl; have c3 := b2.cell' (i := 3) rfl; have c4 := b2.cell' (i := 4) rfl; have o0 := b3.cell' (i := 0) rfl; have o1 := b3.cell' (i := 1) rfl; have o2 := b3.cell' (i := 2) rfl; have o3 := b3.cell' (i := 3) rfl; have x0 := b5.cell' (i := 0) rfl; have x1 := b5.cell' (i := 1) rfl; have x2 := b5.cell' (i := 2) rfl; have x3 := b5.cell' (i := 3) rfl; have x4 := b5.cell' (i := 4) rfl; have x5 := b5.cell' (i := 5) rfl)
        have b6 := Blk.new' w1 33 #[.int .i64 xh, .int .i64 xg, .int .i64 xk, .int .i64 xp, .int .i64 xs', .int .i64 xt]
        replace b2 := b2.alloc (.cells #[.int .i64 xh, .int .i64 xg, .int .i64 xk, .int .i64 xp, .int .i64 xs', .int .i64 xt] 33)
        have hz6 : w.heap.size + 1 < w1.heap.size := b3.lt
        replace b3 := b3.alloc (.cells #[.int .i64 xh, .int .i64 xg, .int .i64 xk, .int .i64 xp, .int .i64 xs', .int .i64 xt] 33)
        replace hb0 := bt hb0 (below_alloc _ (.cells #[.int .i64 xh, .int .i64 xg, .int .i64 xk, .int .i64 xp, .int .i64 xs', .int .i64 xt] 33))
        clear c0 c1 c2 c3 c4 o0 o1 o2 o3
        go_upto_region 9 with (fail)
        obtain ⟨g6, Hg6⟩ : ∃ g, g = w1.heap.size := ⟨_, rfl⟩
        rw [← Hg6] at b6 hz6 ⊢
        clear Hg6 b5 x0 x1 x2 x3 x4 x5
        generalize w1.alloc (.cells #[.int .i64 xh, .int .i64 xg, .int .i64 xk, .int .i64 xp, .int .i64 xs', .int .i64 xt] 33) = W6 at *
        have o0 := b3.cell' (i := 0) rfl; have o1 := b3.cell' (i := 1) rfl; have o2 := b3.cell' (i := 2) rfl; have o3 := b3.cell' (i := 3) rfl
        have y0 := b6.cell' (i := 0) rfl
        have y1 := b6.cell' (i := 1) rfl
        have r0 := b6.frozen 0
        have r1 := b6.frozen 1
        go_upto_region 10 with (fail)
        have tn := (Turned.setCell W6 ⟨g6, 0, none⟩ (.int .i64 ph)).trans (Turned.setCell _ ⟨g6, 1, none⟩ (.int .i64 pg))
        dsimp only at tn
        replace b6 := (b6.set 0 (.int .i64 ph)).set 1 (.int .i64 pg)
        replace b2 := b2.turned tn (by omega)
        replace b3 := b3.turned tn (by omega)
        replace hb0 := tn.below hb0 (by omega)
        clear tn y0 y1 r0 r1 o0 o1 o2 o3
        generalize (W6.setCell ⟨g6, 0, none⟩ (.int .i64 ph)).setCell ⟨g6, 1, none⟩ (.int .i64 pg) = W7 at *
        have o0 := b3.cell' (i := 0) rfl; have o1 := b3.cell' (i := 1) rfl; have o2 := b3.cell' (i := 2) rfl; have o3 := b3.cell' (i := 3) rfl
        have y2 := b6.cell' (i := 2) rfl
        have y4 := b6.cell' (i := 4) rfl
        have y5 := b6.cell' (i := 5) rfl
        have r2 := b6.frozen 2
        have r4 := b6.frozen 4
        have r5 := b6.frozen 5
        by_cases hby0 : by' = 0
        · subst hby0
          go_upto_region 14 with (fail)
          have tn := (Turned.setCell W7 ⟨g6, 2, none⟩ (.int .i64 1)).trans (Turned.setCell _ ⟨g6, 5, none⟩ (.int .i64 (xt + 1)))
          dsimp only at tn
          replace b6 : Blk _ g6 33 (Fd.cells ⟨ph, pg, 1, xp, xs', xt + 1⟩) := (b6.set 2 (.int .i64 1)).set 5 (.int .i64 (xt + 1))
          replace b2 := b2.turned tn (by omega)
          replace hb0 := tn.below hb0 (by omega)
          have HN : Hid (_ = _) := newR_old P Lg (o := ⟨ph, pg, 1, xp, xs', xt + 1⟩) hmem hcnt rfl (aheadB_iff.2 (.inr ⟨rfl, .inl (by show xt < xt + 1; omega)⟩))
          clear tn y2 y4 y5 r2 r4 r5 o0 o1 o2 o3 b3 hel
          generalize (W7.setCell ⟨g6, 2, none⟩ (.int .i64 1)).setCell ⟨g6, 5, none⟩ (.int .i64 (xt + 1)) = W8 at *
          have hsW := hb0.size
          refine wp_region_noPanic ?_
          refine wp_region_held_drew (S := fun W => Blk W w.heap.size 39 [.int .i64 P, .int .i64 Lg, .int .i64 K, .slice (some ⟨b, o, none⟩) n c, .slice q m d] ∧ Blk W g6 33 [.int .i64 ph, .int .i64 pg, .int .i64 1, .int .i64 xp, .int .i64 xs', .int .i64 (xt + 1)] ∧ Below w.heap.size w W ∧ Below W8.heap.size W8 W) (by kernel_rfl) ⟨b2.drew, b6.drew, hb0.drew, (Below.refl _ _).drew⟩ (fun hHeld => ?_)
          refine wpAnyH_take (i := 0) (v := ?_) rfl (by kernel_rfl) (by kernel_rfl) (by kernel_rfl) (fun _ _ _ h => h) (Or.inl ⟨by rfl, ?_⟩) hHeld ?_
          rotate_left
          · intro w' hSw; try dsimp only at hSw
            go_simp; try (with_reducible rfl)
          try simp only [Act.put, List.getElem_toArray, List.getElem_cons_succ, List.getElem_cons_zero, List.setIfInBounds_toArray, List.set_cons_zero, List.set_cons_succ]
          refine wpAnyH_take (i := 1) (v := ?_) rfl (by kernel_rfl) (by kernel_rfl) (by kernel_rfl) (fun _ _ _ h => h) (Or.inl ⟨by rfl, ?_⟩) hHeld ?_
          rotate_left
          · intro w' hSw; try dsimp only at hSw
            obtain ⟨g2, g6', _, _⟩ := hSw
            have c3 := g2.cell' (i := 3) rfl
            have y0 := g6'.cell' (i := 0) rfl
            have y1 := g6'.cell' (i := 1) rfl
            have y2 := g6'.cell' (i := 2) rfl
            have y3 := g6'.cell' (i := 3) rfl
            have y4 := g6'.cell' (i := 4) rfl
            have y5 := g6'.cell' (i := 5) rfl
            go_simp; try (with_reducible rfl)
          try simp only [Act.put, List.getElem_toArray, List.getElem_cons_succ, List.getElem_cons_zero, List.setIfInBounds_toArray, List.set_cons_zero, List.set_cons_succ]
          refine wpAnyH_take (i := 3) (v := ?_) rfl (by kernel_rfl) (by kernel_rfl) (by kernel_rfl) (fun _ _ _ h => h) (Or.inl ⟨by rfl, ?_⟩) hHeld ?_
          rotate_left
          · intro w' hSw; try dsimp only at hSw
            obtain ⟨g2, g6', _, _⟩ := hSw
            have c3 := g2.cell' (i := 3) rfl
            have y0 := g6'.cell' (i := 0) rfl
            have y1 := g6'.cell' (i := 1) rfl
            have y2 := g6'.cell' (i := 2) rfl
            have y3 := g6'.cell' (i := 3) rfl
            have y4 := g6'.cell' (i := 4) rfl
            have y5 := g6'.cell' (i := 5) rfl
            go_simp; try (with_reducible rfl)
          try simp only [Act.put, List.getElem_toArray, List.getElem_cons_succ, List.getElem_cons_zero, List.setIfInBounds_toArray, List.set_cons_zero, List.set_cons_succ]
          have hx8 := hx.below hHeld.2.2.1
          skip
          refine wpAnyH_ready (rs := [2, 4]) (by kernel_rfl) (by simp) ?_
          refine AllReadyH.cons rfl (fun K hK => ?_) ?_
          · go_simp
            refine (cloneF_any _ n c xs _ (hx.below hHeld.2.2.1) (by omega)).mono ?_
            rintro e Wc ⟨pc, cc, rfl, hown, hbc⟩
            try go_wp2_with fail
            refine hK.out _ _ ⟨hHeld.1.kept hbc, hHeld.2.1.kept hbc, bt hHeld.2.2.1 hbc, bt hHeld.2.2.2 hbc⟩ (fun hHeld => ?_)
            clear hK K
            try simp only [Act.put, List.getElem_toArray, List.getElem_cons_succ, List.getElem_cons_zero, List.setIfInBounds_toArray, List.set_cons_zero, List.set_cons_succ]
            have hBc0 := hbc.size
            have hs8 := hHeld.2.2.2.size
            obtain ⟨Bc, HBc⟩ : ∃ B, B = W8.drew.heap.size := ⟨_, rfl⟩
            rw [← HBc] at hown
            have hB8 : W8.heap.size ≤ Bc := by rw [HBc]; exact Nat.le_refl _
            have hBc1 : Bc ≤ Wc.heap.size := by rw [HBc]; exact hBc0
            clear HBc hBc0
            refine wpAnyH_ready (rs := [4]) (by kernel_rfl) (by simp) ?_
            refine AllReadyH.cons rfl (fun K hK => ?_) AllReadyH.nil
            go_simp
            refine hK.out _ _ ⟨hHeld.1.alloc _, hHeld.2.1.alloc _, bt hHeld.2.2.1 (below_alloc _ _), bt hHeld.2.2.2 (below_alloc _ _)⟩ (fun hHeld => ?_)
            clear hK K
            try simp only [Act.put, List.getElem_toArray, List.getElem_cons_succ, List.getElem_cons_zero, List.setIfInBounds_toArray, List.set_cons_zero, List.set_cons_succ]
            have hlit := Blk.new' Wc 33 #[.int .i64 ph, .int .i64 pg, .int .i64 1, .int .i64 xp, .int .i64 xs', .int .i64 (xt + 1)]
            replace hown := owns_below hown (below_alloc Wc (.cells #[.int .i64 ph, .int .i64 pg, .int .i64 1, .int .i64 xp, .int .i64 xs', .int .i64 (xt + 1)] 33))
            obtain ⟨gl, Hgl⟩ : ∃ g, g = Wc.heap.size := ⟨_, rfl⟩
            rw [← Hgl] at hlit ⊢
            have hBc : Bc ≤ (Wc.alloc (.cells #[.int .i64 ph, .int .i64 pg, .int .i64 1, .int .i64 xp, .int .i64 xs', .int .i64 (xt + 1)] 33)).heap.size := by rw [World.size_alloc]; omega
            clear Hgl
            have hg6 : g6 < W8.heap.size := b6.lt
            generalize Wc.alloc (.cells #[.int .i64 ph, .int .i64 pg, .int .i64 1, .int .i64 xp, .int .i64 xs', .int .i64 (xt + 1)] 33) = WW at *
            refine wpAnyH_ready (rs := [5]) (by kernel_rfl) (by simp) ?_
            refine AllReadyH.cons rfl (fun K hK => ?_) AllReadyH.nil
            rw [if_pos (by rfl)]
            refine wp_append_found (.tmp 92) (.tmp 94) rfl Bc _ n xs ⟨ph, pg, 1, xp, xs', xt + 1⟩ _ gl rfl hown rfl hlit (by omega) hBc ?_
            intro pa ca Wa hoa _ hba
            refine hK.out _ _ ⟨hHeld.1.below hba (by omega), hHeld.2.1.below hba (by omega), hHeld.2.2.1.trans (hba.mono (by omega)), hHeld.2.2.2.trans (hba.mono (by omega))⟩ (fun hHeld => ?_)
            clear hK K
            try simp only [Act.put, List.getElem_toArray, List.getElem_cons_succ, List.getElem_cons_zero, List.setIfInBounds_toArray, List.set_cons_zero, List.set_cons_succ]
            refine wpAnyH_take (i := 6) (v := ?_) rfl (by kernel_rfl) (by kernel_rfl) (by kernel_rfl) (fun _ _ _ h => h) (Or.inl ⟨by rfl, ?_⟩) hHeld ?_
            rotate_left
            · intro w' hSw; try dsimp only at hSw
              go_simp; try (with_reducible rfl)
            try simp only [Act.put, List.getElem_toArray, List.getElem_cons_succ, List.getElem_cons_zero, List.setIfInBounds_toArray, List.set_cons_zero, List.set_cons_succ]
            refine wpAnyH_done (by kernel_rfl) ?_ _
            refine NoPanic.normal ?_
            obtain ⟨pI, cI, hvI, hI⟩ := in_of_ownsF hoa (by omega)
            cases hvI
            obtain ⟨d2, -, hbW, -⟩ := hHeld
            clear hown hlit hoa hba b2 b6 hb0
            go_wp2_with fail
            refine wp_region_noPanic ?_
            refine wp_region_held_drew (S := fun W => Blk W w.heap.size 39 [.int .i64 P, .int .i64 Lg, .int .i64 K, .slice (some ⟨b, o, none⟩) n c, .slice q m d] ∧ Below w.heap.size w W ∧ Below Wa.heap.size Wa W) (by kernel_rfl) ⟨d2.drew, hbW.drew, (Below.refl _ _).drew⟩ (fun hHeld => ?_)
            refine wpAnyH_take (i := 0) (v := ?_) rfl (by kernel_rfl) (by kernel_rfl) (by kernel_rfl) (fun _ _ _ h => h) (Or.inl ⟨by rfl, ?_⟩) hHeld ?_
            rotate_left
            · intro w' hSw; try dsimp only at hSw
              go_simp; try (with_reducible rfl)
            try simp only [Act.put, List.getElem_toArray, List.getElem_cons_succ, List.getElem_cons_zero, List.setIfInBounds_toArray, List.set_cons_zero, List.set_cons_succ]
            refine wpAnyH_take (i := 1) (v := ?_) rfl (by kernel_rfl) (by kernel_rfl) (by kernel_rfl) (fun _ _ _ h => h) (Or.inl ⟨by rfl, ?_⟩) hHeld ?_
            rotate_left
            · intro w' hSw; try dsimp only at hSw
              obtain ⟨g2, _, _⟩ := hSw
              have c0 := g2.cell' (i := 0) rfl; have c1 := g2.cell' (i := 1) rfl; have c3 := g2.cell' (i := 3) rfl
              go_simp; try (with_reducible rfl)
            try simp only [Act.put, List.getElem_toArray, List.getElem_cons_succ, List.getElem_cons_zero, List.setIfInBounds_toArray, List.set_cons_zero, List.set_cons_succ]
            refine wpAnyH_take (i := 2) (v := ?_) rfl (by kernel_rfl) (by kernel_rfl) (by kernel_rfl) (fun _ _ _ h => h) (Or.inl ⟨by rfl, ?_⟩) hHeld ?_
            rotate_left
            · intro w' hSw; try dsimp only at hSw
              go_simp; try (with_reducible rfl)
            try simp only [Act.put, List.getElem_toArray, List.getElem_cons_succ, List.getElem_cons_zero, List.setIfInBounds_toArray, List.set_cons_zero, List.set_cons_succ]
            refine wpAnyH_take (i := 3) (v := ?_) rfl (by kernel_rfl) (by kernel_rfl) (by kernel_rfl) (fun _ _ _ h => h) (Or.inl ⟨by rfl, ?_⟩) hHeld ?_
            rotate_left
            · intro w' hSw; try dsimp only at hSw
              obtain ⟨g2, _, _⟩ := hSw
              have c0 := g2.cell' (i := 0) rfl; have c1 := g2.cell' (i := 1) rfl; have c3 := g2.cell' (i := 3) rfl
              go_simp; try (with_reducible rfl)
            try simp only [Act.put, List.getElem_toArray, List.getElem_cons_succ, List.getElem_cons_zero, List.setIfInBounds_toArray, List.set_cons_zero, List.set_cons_succ]
            refine wpAnyH_take (i := 4) (v := ?_) rfl (by kernel_rfl) (by kernel_rfl) (by kernel_rfl) (fun _ _ _ h => h) (Or.inl ⟨by rfl, ?_⟩) hHeld ?_
            rotate_left
            · intro w' hSw; try dsimp only at hSw
              go_simp; try (with_reducible rfl)
            try simp only [Act.put, List.getElem_toArray, List.getElem_cons_succ, List.getElem_cons_zero, List.setIfInBounds_toArray, List.set_cons_zero, List.set_cons_succ]
            refine wpAnyH_take (i := 6) (v := ?_) rfl (by kernel_rfl) (by kernel_rfl) (by kernel_rfl) (fun _ _ _ h => h) (Or.inl ⟨by rfl, ?_⟩) hHeld ?_
            rotate_left
            · intro w' hSw; try dsimp only at hSw
              go_simp; try (with_reducible rfl)
            try simp only [Act.put, List.getElem_toArray, List.getElem_cons_succ, List.getElem_cons_zero, List.setIfInBounds_toArray, List.set_cons_zero, List.set_cons_succ]
            refine wpAnyH_take (i := 7) (v := ?_) rfl (by kernel_rfl) (by kernel_rfl) (by kernel_rfl) (fun _ _ _ h => h) (Or.inl ⟨by rfl, ?_⟩) hHeld ?_
            rotate_left
            · intro w' hSw; try dsimp only at hSw
              obtain ⟨g2, _, _⟩ := hSw
              have c0 := g2.cell' (i := 0) rfl; have c1 := g2.cell' (i := 1) rfl; have c3 := g2.cell' (i := 3) rfl
              go_simp; try (with_reducible rfl)
            try simp only [Act.put, List.getElem_toArray, List.getElem_cons_succ, List.getElem_cons_zero, List.setIfInBounds_toArray, List.set_cons_zero, List.set_cons_succ]
            refine wpAnyH_take (i := 8) (v := ?_) rfl (by kernel_rfl) (by kernel_rfl) (by kernel_rfl) (fun _ _ _ h => h) (Or.inl ⟨by rfl, ?_⟩) hHeld ?_
            rotate_left
            · intro w' hSw; try dsimp only at hSw
              go_simp; try (with_reducible rfl)
            try simp only [Act.put, List.getElem_toArray, List.getElem_cons_succ, List.getElem_cons_zero, List.setIfInBounds_toArray, List.set_cons_zero, List.set_cons_succ]
            refine wpAnyH_take (i := 9) (v := ?_) rfl (by kernel_rfl) (by kernel_rfl) (by kernel_rfl) (fun _ _ _ h => h) (Or.inl ⟨by rfl, ?_⟩) hHeld ?_
            rotate_left
            · intro w' hSw; try dsimp only at hSw
              obtain ⟨g2, _, _⟩ := hSw
              have c0 := g2.cell' (i := 0) rfl; have c1 := g2.cell' (i := 1) rfl; have c3 := g2.cell' (i := 3) rfl
              go_simp; try (with_reducible rfl)
            try simp only [Act.put, List.getElem_toArray, List.getElem_cons_succ, List.getElem_cons_zero, List.setIfInBounds_toArray, List.set_cons_zero, List.set_cons_succ]
            refine wpAnyH_take (i := 10) (v := ?_) rfl (by kernel_rfl) (by kernel_rfl) (by kernel_rfl) (fun _ _ _ h => h) (Or.inl ⟨by rfl, ?_⟩) hHeld ?_
            rotate_left
            · intro w' hSw; try dsimp only at hSw
              go_simp; try (with_reducible rfl)
            try simp only [Act.put, List.getElem_toArray, List.getElem_cons_succ, List.getElem_cons_zero, List.setIfInBounds_toArray, List.set_cons_zero, List.set_cons_succ]
            refine wpAnyH_take (i := 11) (v := ?_) rfl (by kernel_rfl) (by kernel_rfl) (by kernel_rfl) (fun _ _ _ h => h) (Or.inl ⟨by rfl, ?_⟩) hHeld ?_
            rotate_left
            · intro w' hSw; try dsimp only at hSw
              obtain ⟨g2, _, _⟩ := hSw
              have c0 := g2.cell' (i := 0) rfl; have c1 := g2.cell' (i := 1) rfl; have c3 := g2.cell' (i := 3) rfl
              go_simp; try (with_reducible rfl)
            try simp only [Act.put, List.getElem_toArray, List.getElem_cons_succ, List.getElem_cons_zero, List.setIfInBounds_toArray, List.set_cons_zero, List.set_cons_succ]
            refine wpAnyH_ready (rs := [5]) (by kernel_rfl) (by simp) ?_
            refine AllReadyH.cons rfl (fun K hK => ?_) AllReadyH.nil
            go_simp
            have hI2 := hI.below hHeld.2.2
            refine (newest_all P Lg _ _ _ _ _ hI2).mono ?_
            rintro e Wn ⟨pn, mn, rfl, hn1, hbn⟩
            try go_wp2_with fail
            refine hK.out _ _ ⟨hHeld.1.kept hbn, bt hHeld.2.1 hbn, bt hHeld.2.2 hbn⟩ (fun hHeld => ?_)
            clear hK K
            try simp only [Act.put, List.getElem_toArray, List.getElem_cons_succ, List.getElem_cons_zero, List.setIfInBounds_toArray, List.set_cons_zero, List.set_cons_succ]
            refine wpAnyH_ready (rs := [12]) (by kernel_rfl) (by simp) ?_
            refine AllReadyH.cons rfl (fun K hK => ?_) AllReadyH.nil
            go_simp
            have hx2 := hx.below hHeld.2.1
            refine (newest_all P Lg _ _ _ _ _ hx2).mono ?_
            rintro e Wm ⟨pm, mm, rfl, hm1, hbm⟩
            try go_wp2_with fail
            refine hK.out _ _ ⟨hHeld.1.kept hbm, bt hHeld.2.1 hbm, bt hHeld.2.2 hbm⟩ (fun hHeld => ?_)
            clear hK K
            try simp only [Act.put, List.getElem_toArray, List.getElem_cons_succ, List.getElem_cons_zero, List.setIfInBounds_toArray, List.set_cons_zero, List.set_cons_succ]
            rw [HN.out] at hn1
            obtain rfl : mn = mm := hn1.len.symm.trans hm1.len
            replace hn1 := hn1.below hbm
            refine wpAnyH_ready (rs := [13]) (by kernel_rfl) (by simp) ?_
            refine AllReadyH.cons rfl (fun K hK => ?_) AllReadyH.nil
            go_simp
            refine (samePlaces_yes pn pm mn mn mn _ _ hn1 hm1).mono ?_
            rintro e Ws ⟨rfl, hbs⟩
            try go_wp2_with fail
            refine hK.out _ _ ⟨hHeld.1.kept hbs, bt hHeld.2.1 hbs, bt hHeld.2.2 hbs⟩ (fun hHeld => ?_)
            clear hK K
            try simp only [Act.put, List.getElem_toArray, List.getElem_cons_succ, List.getElem_cons_zero, List.setIfInBounds_toArray, List.set_cons_zero, List.set_cons_succ]
            refine wpAnyH_take (i := 14) (v := ?_) rfl (by kernel_rfl) (by kernel_rfl) (by kernel_rfl) (fun _ _ _ h => h) (Or.inl ⟨by rfl, ?_⟩) hHeld ?_
            rotate_left
            · intro w' hSw; try dsimp only at hSw
              go_simp; try (with_reducible rfl)
            try simp only [Act.put, List.getElem_toArray, List.getElem_cons_succ, List.getElem_cons_zero, List.setIfInBounds_toArray, List.set_cons_zero, List.set_cons_succ]
            refine wpAnyH_done (by kernel_rfl) ?_ _
            refine NoPanic.normal ?_
            go_wp2_with fail
            go_ret
            exact ⟨rfl, hHeld.2.1⟩
          refine AllReadyH.cons rfl (fun K hK => ?_) AllReadyH.nil
          go_simp
          refine hK.out _ _ ⟨hHeld.1.alloc _, hHeld.2.1.alloc _, bt hHeld.2.2.1 (below_alloc _ _), bt hHeld.2.2.2 (below_alloc _ _)⟩ (fun hHeld => ?_)
          clear hK K
          try simp only [Act.put, List.getElem_toArray, List.getElem_cons_succ, List.getElem_cons_zero, List.setIfInBounds_toArray, List.set_cons_zero, List.set_cons_succ]
          have hlit := (Blk.new' W8 33 #[.int .i64 ph, .int .i64 pg, .int .i64 1, .int .i64 xp, .int .i64 xs', .int .i64 (xt + 1)]).drew
          have hg6 : g6 < W8.heap.size := b6.lt
          have hs8 := hHeld.2.2.2.size
          generalize (W8.alloc (.cells #[.int .i64 ph, .int .i64 pg, .int .i64 1, .int .i64 xp, .int .i64 xs', .int .i64 (xt + 1)] 33)).drew = Wl at *
          refine wpAnyH_ready (rs := [2]) (by kernel_rfl) (by simp) ?_
          refine AllReadyH.cons rfl (fun K hK => ?_) AllReadyH.nil
          go_simp
          refine (cloneF_any _ n c xs _ (hx.below hHeld.2.2.1) (by omega)).mono ?_
          rintro e Wc ⟨pc, cc, rfl, hown, hbc⟩
          try go_wp2_with fail
          refine hK.out _ _ ⟨hHeld.1.kept hbc, hHeld.2.1.kept hbc, bt hHeld.2.2.1 hbc, bt hHeld.2.2.2 hbc⟩ (fun hHeld => ?_)
          clear hK K
          try simp only [Act.put, List.getElem_toArray, List.getElem_cons_succ, List.getElem_cons_zero, List.setIfInBounds_toArray, List.set_cons_zero, List.set_cons_succ]
          replace hlit := hlit.kept hbc
          have hBc0 := hbc.size
          obtain ⟨Bc, HBc⟩ : ∃ B, B = Wl.heap.size := ⟨_, rfl⟩
          rw [← HBc] at hown
          have hB8 : W8.heap.size ≤ Bc := by rw [HBc]; exact hs8
          have hBc : Bc ≤ Wc.heap.size := by rw [HBc]; exact hBc0
          clear HBc hBc0
          refine wpAnyH_ready (rs := [5]) (by kernel_rfl) (by simp) ?_
          refine AllReadyH.cons rfl (fun K hK => ?_) AllReadyH.nil
          rw [if_pos (by rfl)]
          refine wp_append_found (.tmp 92) (.tmp 94) rfl Bc _ n xs ⟨ph, pg, 1, xp, xs', xt + 1⟩ _ (W8.heap.size) rfl hown rfl hlit (by omega) hBc ?_
          intro pa ca Wa hoa _ hba
          refine hK.out _ _ ⟨hHeld.1.below hba (by omega), hHeld.2.1.below hba (by omega), hHeld.2.2.1.trans (hba.mono (by omega)), hHeld.2.2.2.trans (hba.mono (by omega))⟩ (fun hHeld => ?_)
          clear hK K
          try simp only [Act.put, List.getElem_toArray, List.getElem_cons_succ, List.getElem_cons_zero, List.setIfInBounds_toArray, List.set_cons_zero, List.set_cons_succ]
          refine wpAnyH_take (i := 6) (v := ?_) rfl (by kernel_rfl) (by kernel_rfl) (by kernel_rfl) (fun _ _ _ h => h) (Or.inl ⟨by rfl, ?_⟩) hHeld ?_
          rotate_left
          · intro w' hSw; try dsimp only at hSw
            go_simp; try (with_reducible rfl)
          try simp only [Act.put, List.getElem_toArray, List.getElem_cons_succ, List.getElem_cons_zero, List.setIfInBounds_toArray, List.set_cons_zero, List.set_cons_succ]
          refine wpAnyH_done (by kernel_rfl) ?_ _
          refine NoPanic.normal ?_
          obtain ⟨pI, cI, hvI, hI⟩ := in_of_ownsF hoa (by omega)
          cases hvI
          obtain ⟨d2, -, hbW, -⟩ := hHeld
          clear hown hlit hoa hba b2 b6 hb0
          go_wp2_with fail
          refine wp_region_noPanic ?_
          refine wp_region_held_drew (S := fun W => Blk W w.heap.size 39 [.int .i64 P, .int .i64 Lg, .int .i64 K, .slice (some ⟨b, o, none⟩) n c, .slice q m d] ∧ Below w.heap.size w W ∧ Below Wa.heap.size Wa W) (by kernel_rfl) ⟨d2.drew, hbW.drew, (Below.refl _ _).drew⟩ (fun hHeld => ?_)
          refine wpAnyH_take (i := 0) (v := ?_) rfl (by kernel_rfl) (by kernel_rfl) (by kernel_rfl) (fun _ _ _ h => h) (Or.inl ⟨by rfl, ?_⟩) hHeld ?_
          rotate_left
          · intro w' hSw; try dsimp only at hSw
            go_simp; try (with_reducible rfl)
          try simp only [Act.put, List.getElem_toArray, List.getElem_cons_succ, List.getElem_cons_zero, List.setIfInBounds_toArray, List.set_cons_zero, List.set_cons_succ]
          refine wpAnyH_take (i := 1) (v := ?_) rfl (by kernel_rfl) (by kernel_rfl) (by kernel_rfl) (fun _ _ _ h => h) (Or.inl ⟨by rfl, ?_⟩) hHeld ?_
          rotate_left
          · intro w' hSw; try dsimp only at hSw
            obtain ⟨g2, _, _⟩ := hSw
            have c0 := g2.cell' (i := 0) rfl; have c1 := g2.cell' (i := 1) rfl; have c3 := g2.cell' (i := 3) rfl
            go_simp; try (with_reducible rfl)
          try simp only [Act.put, List.getElem_toArray, List.getElem_cons_succ, List.getElem_cons_zero, List.setIfInBounds_toArray, List.set_cons_zero, List.set_cons_succ]
          refine wpAnyH_take (i := 2) (v := ?_) rfl (by kernel_rfl) (by kernel_rfl) (by kernel_rfl) (fun _ _ _ h => h) (Or.inl ⟨by rfl, ?_⟩) hHeld ?_
          rotate_left
          · intro w' hSw; try dsimp only at hSw
            go_simp; try (with_reducible rfl)
          try simp only [Act.put, List.getElem_toArray, List.getElem_cons_succ, List.getElem_cons_zero, List.setIfInBounds_toArray, List.set_cons_zero, List.set_cons_succ]
          refine wpAnyH_take (i := 3) (v := ?_) rfl (by kernel_rfl) (by kernel_rfl) (by kernel_rfl) (fun _ _ _ h => h) (Or.inl ⟨by rfl, ?_⟩) hHeld ?_
          rotate_left
          · intro w' hSw; try dsimp only at hSw
            obtain ⟨g2, _, _⟩ := hSw
            have c0 := g2.cell' (i := 0) rfl; have c1 := g2.cell' (i := 1) rfl; have c3 := g2.cell' (i := 3) rfl
            go_simp; try (with_reducible rfl)
          try simp only [Act.put, List.getElem_toArray, List.getElem_cons_succ, List.getElem_cons_zero, List.setIfInBounds_toArray, List.set_cons_zero, List.set_cons_succ]
          refine wpAnyH_take (i := 4) (v := ?_) rfl (by kernel_rfl) (by kernel_rfl) (by kernel_rfl) (fun _ _ _ h => h) (Or.inl ⟨by rfl, ?_⟩) hHeld ?_
          rotate_left
          · intro w' hSw; try dsimp only at hSw
            go_simp; try (with_reducible rfl)
          try simp only [Act.put, List.getElem_toArray, List.getElem_cons_succ, List.getElem_cons_zero, List.setIfInBounds_toArray, List.set_cons_zero, List.set_cons_succ]
          refine wpAnyH_take (i := 6) (v := ?_) rfl (by kernel_rfl) (by kernel_rfl) (by kernel_rfl) (fun _ _ _ h => h) (Or.inl ⟨by rfl, ?_⟩) hHeld ?_
          rotate_left
          · intro w' hSw; try dsimp only at hSw
            go_simp; try (with_reducible rfl)
          try simp only [Act.put, List.getElem_toArray, List.getElem_cons_succ, List.getElem_cons_zero, List.setIfInBounds_toArray, List.set_cons_zero, List.set_cons_succ]
          refine wpAnyH_take (i := 7) (v := ?_) rfl (by kernel_rfl) (by kernel_rfl) (by kernel_rfl) (fun _ _ _ h => h) (Or.inl ⟨by rfl, ?_⟩) hHeld ?_
          rotate_left
          · intro w' hSw; try dsimp only at hSw
            obtain ⟨g2, _, _⟩ := hSw
            have c0 := g2.cell' (i := 0) rfl; have c1 := g2.cell' (i := 1) rfl; have c3 := g2.cell' (i := 3) rfl
            go_simp; try (with_reducible rfl)
          try simp only [Act.put, List.getElem_toArray, List.getElem_cons_succ, List.getElem_cons_zero, List.setIfInBounds_toArray, List.set_cons_zero, List.set_cons_succ]
          refine wpAnyH_take (i := 8) (v := ?_) rfl (by kernel_rfl) (by kernel_rfl) (by kernel_rfl) (fun _ _ _ h => h) (Or.inl ⟨by rfl, ?_⟩) hHeld ?_
          rotate_left
          · intro w' hSw; try dsimp only at hSw
            go_simp; try (with_reducible rfl)
          try simp only [Act.put, List.getElem_toArray, List.getElem_cons_succ, List.getElem_cons_zero, List.setIfInBounds_toArray, List.set_cons_zero, List.set_cons_succ]
          refine wpAnyH_take (i := 9) (v := ?_) rfl (by kernel_rfl) (by kernel_rfl) (by kernel_rfl) (fun _ _ _ h => h) (Or.inl ⟨by rfl, ?_⟩) hHeld ?_
          rotate_left
          · intro w' hSw; try dsimp only at hSw
            obtain ⟨g2, _, _⟩ := hSw
            have c0 := g2.cell' (i := 0) rfl; have c1 := g2.cell' (i := 1) rfl; have c3 := g2.cell' (i := 3) rfl
            go_simp; try (with_reducible rfl)
          try simp only [Act.put, List.getElem_toArray, List.getElem_cons_succ, List.getElem_cons_zero, List.setIfInBounds_toArray, List.set_cons_zero, List.set_cons_succ]
          refine wpAnyH_take (i := 10) (v := ?_) rfl (by kernel_rfl) (by kernel_rfl) (by kernel_rfl) (fun _ _ _ h => h) (Or.inl ⟨by rfl, ?_⟩) hHeld ?_
          rotate_left
          · intro w' hSw; try dsimp only at hSw
            go_simp; try (with_reducible rfl)
          try simp only [Act.put, List.getElem_toArray, List.getElem_cons_succ, List.getElem_cons_zero, List.setIfInBounds_toArray, List.set_cons_zero, List.set_cons_succ]
          refine wpAnyH_take (i := 11) (v := ?_) rfl (by kernel_rfl) (by kernel_rfl) (by kernel_rfl) (fun _ _ _ h => h) (Or.inl ⟨by rfl, ?_⟩) hHeld ?_
          rotate_left
          · intro w' hSw; try dsimp only at hSw
            obtain ⟨g2, _, _⟩ := hSw
            have c0 := g2.cell' (i := 0) rfl; have c1 := g2.cell' (i := 1) rfl; have c3 := g2.cell' (i := 3) rfl
            go_simp; try (with_reducible rfl)
          try simp only [Act.put, List.getElem_toArray, List.getElem_cons_succ, List.getElem_cons_zero, List.setIfInBounds_toArray, List.set_cons_zero, List.set_cons_succ]
          refine wpAnyH_ready (rs := [5]) (by kernel_rfl) (by simp) ?_
          refine AllReadyH.cons rfl (fun K hK => ?_) AllReadyH.nil
          go_simp
          have hI2 := hI.below hHeld.2.2
          refine (newest_all P Lg _ _ _ _ _ hI2).mono ?_
          rintro e Wn ⟨pn, mn, rfl, hn1, hbn⟩
          try go_wp2_with fail
          refine hK.out _ _ ⟨hHeld.1.kept hbn, bt hHeld.2.1 hbn, bt hHeld.2.2 hbn⟩ (fun hHeld => ?_)
          clear hK K
          try simp only [Act.put, List.getElem_toArray, List.getElem_cons_succ, List.getElem_cons_zero, List.setIfInBounds_toArray, List.set_cons_zero, List.set_cons_succ]
          refine wpAnyH_ready (rs := [12]) (by kernel_rfl) (by simp) ?_
          refine AllReadyH.cons rfl (fun K hK => ?_) AllReadyH.nil
          go_simp
          have hx2 := hx.below hHeld.2.1
          refine (newest_all P Lg _ _ _ _ _ hx2).mono ?_
          rintro e Wm ⟨pm, mm, rfl, hm1, hbm⟩
          try go_wp2_with fail
          refine hK.out _ _ ⟨hHeld.1.kept hbm, bt hHeld.2.1 hbm, bt hHeld.2.2 hbm⟩ (fun hHeld => ?_)
          clear hK K
          try simp only [Act.put, List.getElem_toArray, List.getElem_cons_succ, List.getElem_cons_zero, List.setIfInBounds_toArray, List.set_cons_zero, List.set_cons_succ]
          rw [HN.out] at hn1
          obtain rfl : mn = mm := hn1.len.symm.trans hm1.len
          replace hn1 := hn1.below hbm
          refine wpAnyH_ready (rs := [13]) (by kernel_rfl) (by simp) ?_
          refine AllReadyH.cons rfl (fun K hK => ?_) AllReadyH.nil
          go_simp
          refine (samePlaces_yes pn pm mn mn mn _ _ hn1 hm1).mono ?_
          rintro e Ws ⟨rfl, hbs⟩
          try go_wp2_with fail
          refine hK.out _ _ ⟨hHeld.1.kept hbs, bt hHeld.2.1 hbs, bt hHeld.2.2 hbs⟩ (fun hHeld => ?_)
          clear hK K
          try simp only [Act.put, List.getElem_toArray, List.getElem_cons_succ, List.getElem_cons_zero, List.setIfInBounds_toArray, List.set_cons_zero, List.set_cons_succ]
          refine wpAnyH_take (i := 14) (v := ?_) rfl (by kernel_rfl) (by kernel_rfl) (by kernel_rfl) (fun _ _ _ h => h) (Or.inl ⟨by rfl, ?_⟩) hHeld ?_
          rotate_left
          · intro w' hSw; try dsimp only at hSw
            go_simp; try (with_reducible rfl)
          try simp only [Act.put, List.getElem_toArray, List.getElem_cons_succ, List.getElem_cons_zero, List.setIfInBounds_toArray, List.set_cons_zero, List.set_cons_succ]
          refine wpAnyH_done (by kernel_rfl) ?_ _
          refine NoPanic.normal ?_
          go_wp2_with fail
          go_ret
          exact ⟨rfl, hHeld.2.1⟩
        · have hbyp : 0 < (by' : Int) := by omega
          go_upto_region 14 with (fail)
          have tn := Turned.setCell W7 ⟨g6, 4, none⟩ (.int .i64 (xs' - (by' : Int)))
          dsimp only at tn
          replace b6 : Blk _ g6 33 (Fd.cells ⟨ph, pg, xk, xp, xs' - (by' : Int), xt⟩) := b6.set 4 (.int .i64 (xs' - (by' : Int)))
          replace b2 := b2.turned tn (by omega)
          replace hb0 := tn.below hb0 (by omega)
          have HN : Hid (_ = _) := newR_old P Lg (o := ⟨ph, pg, xk, xp, xs' - (by' : Int), xt⟩) hmem hcnt rfl (aheadB_iff.2 (.inl (by show xs' - (by' : Int) < xs'; omega)))
          clear tn y2 y4 y5 r2 r4 r5 o0 o1 o2 o3 b3 hel
          generalize W7.setCell ⟨g6, 4, none⟩ (.int .i64 (xs' - (by' : Int))) = W8 at *
          have hsW := hb0.size
          refine wp_region_noPanic ?_
          refine wp_region_held_drew (S := fun W => Blk W w.heap.size 39 [.int .i64 P, .int .i64 Lg, .int .i64 K, .slice (some ⟨b, o, none⟩) n c, .slice q m d] ∧ Blk W g6 33 [.int .i64 ph, .int .i64 pg, .int .i64 xk, .int .i64 xp, .int .i64 (xs' - (by' : Int)), .int .i64 xt] ∧ Below w.heap.size w W ∧ Below W8.heap.size W8 W) (by kernel_rfl) ⟨b2.drew, b6.drew, hb0.drew, (Below.refl _ _).drew⟩ (fun hHeld => ?_)
          refine wpAnyH_take (i := 0) (v := ?_) rfl (by kernel_rfl) (by kernel_rfl) (by kernel_rfl) (fun _ _ _ h => h) (Or.inl ⟨by rfl, ?_⟩) hHeld ?_
          rotate_left
          · intro w' hSw; try dsimp only at hSw
            go_simp; try (with_reducible rfl)
          try simp only [Act.put, List.getElem_toArray, List.getElem_cons_succ, List.getElem_cons_zero, List.setIfInBounds_toArray, List.set_cons_zero, List.set_cons_succ]
          refine wpAnyH_take (i := 1) (v := ?_) rfl (by kernel_rfl) (by kernel_rfl) (by kernel_rfl) (fun _ _ _ h => h) (Or.inl ⟨by rfl, ?_⟩) hHeld ?_
          rotate_left
          · intro w' hSw; try dsimp only at hSw
            obtain ⟨g2, g6', _, _⟩ := hSw
            have c3 := g2.cell' (i := 3) rfl
            have y0 := g6'.cell' (i := 0) rfl
            have y1 := g6'.cell' (i := 1) rfl
            have y2 := g6'.cell' (i := 2) rfl
            have y3 := g6'.cell' (i := 3) rfl
            have y4 := g6'.cell' (i := 4) rfl
            have y5 := g6'.cell' (i := 5) rfl
            go_simp; try (with_reducible rfl)
          try simp only [Act.put, List.getElem_toArray, List.getElem_cons_succ, List.getElem_cons_zero, List.setIfInBounds_toArray, List.set_cons_zero, List.set_cons_succ]
          refine wpAnyH_take (i := 3) (v := ?_) rfl (by kernel_rfl) (by kernel_rfl) (by kernel_rfl) (fun _ _ _ h => h) (Or.inl ⟨by rfl, ?_⟩) hHeld ?_
          rotate_left
          · intro w' hSw; try dsimp only at hSw
            obtain ⟨g2, g6', _, _⟩ := hSw
            have c3 := g2.cell' (i := 3) rfl
            have y0 := g6'.cell' (i := 0) rfl
            have y1 := g6'.cell' (i := 1) rfl
            have y2 := g6'.cell' (i := 2) rfl
            have y3 := g6'.cell' (i := 3) rfl
            have y4 := g6'.cell' (i := 4) rfl
            have y5 := g6'.cell' (i := 5) rfl
            go_simp; try (with_reducible rfl)
          try simp only [Act.put, List.getElem_toArray, List.getElem_cons_succ, List.getElem_cons_zero, List.setIfInBounds_toArray, List.set_cons_zero, List.set_cons_succ]
          have hx8 := hx.below hHeld.2.2.1
          skip
          refine wpAnyH_ready (rs := [2, 4]) (by kernel_rfl) (by simp) ?_
          refine AllReadyH.cons rfl (fun K hK => ?_) ?_
          · go_simp
            refine (cloneF_any _ n c xs _ (hx.below hHeld.2.2.1) (by omega)).mono ?_
            rintro e Wc ⟨pc, cc, rfl, hown, hbc⟩
            try go_wp2_with fail
            refine hK.out _ _ ⟨hHeld.1.kept hbc, hHeld.2.1.kept hbc, bt hHeld.2.2.1 hbc, bt hHeld.2.2.2 hbc⟩ (fun hHeld => ?_)
            clear hK K
            try simp only [Act.put, List.getElem_toArray, List.getElem_cons_succ, List.getElem_cons_zero, List.setIfInBounds_toArray, List.set_cons_zero, List.set_cons_succ]
            have hBc0 := hbc.size
            have hs8 := hHeld.2.2.2.size
            obtain ⟨Bc, HBc⟩ : ∃ B, B = W8.drew.heap.size := ⟨_, rfl⟩
            rw [← HBc] at hown
            have hB8 : W8.heap.size ≤ Bc := by rw [HBc]; exact Nat.le_refl _
            have hBc1 : Bc ≤ Wc.heap.size := by rw [HBc]; exact hBc0
            clear HBc hBc0
            refine wpAnyH_ready (rs := [4]) (by kernel_rfl) (by simp) ?_
            refine AllReadyH.cons rfl (fun K hK => ?_) AllReadyH.nil
            go_simp
            refine hK.out _ _ ⟨hHeld.1.alloc _, hHeld.2.1.alloc _, bt hHeld.2.2.1 (below_alloc _ _), bt hHeld.2.2.2 (below_alloc _ _)⟩ (fun hHeld => ?_)
            clear hK K
            try simp only [Act.put, List.getElem_toArray, List.getElem_cons_succ, List.getElem_cons_zero, List.setIfInBounds_toArray, List.set_cons_zero, List.set_cons_succ]
            have hlit := Blk.new' Wc 33 #[.int .i64 ph, .int .i64 pg, .int .i64 xk, .int .i64 xp, .int .i64 (xs' - (by' : Int)), .int .i64 xt]
            replace hown := owns_below hown (below_alloc Wc (.cells #[.int .i64 ph, .int .i64 pg, .int .i64 xk, .int .i64 xp, .int .i64 (xs' - (by' : Int)), .int .i64 xt] 33))
            obtain ⟨gl, Hgl⟩ : ∃ g, g = Wc.heap.size := ⟨_, rfl⟩
            rw [← Hgl] at hlit ⊢
            have hBc : Bc ≤ (Wc.alloc (.cells #[.int .i64 ph, .int .i64 pg, .int .i64 xk, .int .i64 xp, .int .i64 (xs' - (by' : Int)), .int .i64 xt] 33)).heap.size := by rw [World.size_alloc]; omega
            clear Hgl
            have hg6 : g6 < W8.heap.size := b6.lt
            generalize Wc.alloc (.cells #[.int .i64 ph, .int .i64 pg, .int .i64 xk, .int .i64 xp, .int .i64 (xs' - (by' : Int)), .int .i64 xt] 33) = WW at *
            refine wpAnyH_ready (rs := [5]) (by kernel_rfl) (by simp) ?_
            refine AllReadyH.cons rfl (fun K hK => ?_) AllReadyH.nil
            rw [if_pos (by rfl)]
            refine wp_append_found (.tmp 92) (.tmp 94) rfl Bc _ n xs ⟨ph, pg, xk, xp, xs' - (by' : Int), xt⟩ _ gl rfl hown rfl hlit (by omega) hBc ?_
            intro pa ca Wa hoa _ hba
            refine hK.out _ _ ⟨hHeld.1.below hba (by omega), hHeld.2.1.below hba (by omega), hHeld.2.2.1.trans (hba.mono (by omega)), hHeld.2.2.2.trans (hba.mono (by omega))⟩ (fun hHeld => ?_)
            clear hK K
            try simp only [Act.put, List.getElem_toArray, List.getElem_cons_succ, List.getElem_cons_zero, List.setIfInBounds_toArray, List.set_cons_zero, List.set_cons_succ]
            refine wpAnyH_take (i := 6) (v := ?_) rfl (by kernel_rfl) (by kernel_rfl) (by kernel_rfl) (fun _ _ _ h => h) (Or.inl ⟨by rfl, ?_⟩) hHeld ?_
            rotate_left
            · intro w' hSw; try dsimp only at hSw
              go_simp; try (with_reducible rfl)
            try simp only [Act.put, List.getElem_toArray, List.getElem_cons_succ, List.getElem_cons_zero, List.setIfInBounds_toArray, List.set_cons_zero, List.set_cons_succ]
            refine wpAnyH_done (by kernel_rfl) ?_ _
            refine NoPanic.normal ?_
            obtain ⟨pI, cI, hvI, hI⟩ := in_of_ownsF hoa (by omega)
            cases hvI
            obtain ⟨d2, -, hbW, -⟩ := hHeld
            clear hown hlit hoa hba b2 b6 hb0
            go_wp2_with fail
            refine wp_region_noPanic ?_
            refine wp_region_held_drew (S := fun W => Blk W w.heap.size 39 [.int .i64 P, .int .i64 Lg, .int .i64 K, .slice (some ⟨b, o, none⟩) n c, .slice q m d] ∧ Below w.heap.size w W ∧ Below Wa.heap.size Wa W) (by kernel_rfl) ⟨d2.drew, hbW.drew, (Below.refl _ _).drew⟩ (fun hHeld => ?_)
            refine wpAnyH_take (i := 0) (v := ?_) rfl (by kernel_rfl) (by kernel_rfl) (by kernel_rfl) (fun _ _ _ h => h) (Or.inl ⟨by rfl, ?_⟩) hHeld ?_
            rotate_left
            · intro w' hSw; try dsimp only at hSw
              go_simp; try (with_reducible rfl)
            try simp only [Act.put, List.getElem_toArray, List.getElem_cons_succ, List.getElem_cons_zero, List.setIfInBounds_toArray, List.set_cons_zero, List.set_cons_succ]
            refine wpAnyH_take (i := 1) (v := ?_) rfl (by kernel_rfl) (by kernel_rfl) (by kernel_rfl) (fun _ _ _ h => h) (Or.inl ⟨by rfl, ?_⟩) hHeld ?_
            rotate_left
            · intro w' hSw; try dsimp only at hSw
              obtain ⟨g2, _, _⟩ := hSw
              have c0 := g2.cell' (i := 0) rfl; have c1 := g2.cell' (i := 1) rfl; have c3 := g2.cell' (i := 3) rfl
              go_simp; try (with_reducible rfl)
            try simp only [Act.put, List.getElem_toArray, List.getElem_cons_succ, List.getElem_cons_zero, List.setIfInBounds_toArray, List.set_cons_zero, List.set_cons_succ]
            refine wpAnyH_take (i := 2) (v := ?_) rfl (by kernel_rfl) (by kernel_rfl) (by kernel_rfl) (fun _ _ _ h => h) (Or.inl ⟨by rfl, ?_⟩) hHeld ?_
            rotate_left
            · intro w' hSw; try dsimp only at hSw
              go_simp; try (with_reducible rfl)
            try simp only [Act.put, List.getElem_toArray, List.getElem_cons_succ, List.getElem_cons_zero, List.setIfInBounds_toArray, List.set_cons_zero, List.set_cons_succ]
            refine wpAnyH_take (i := 3) (v := ?_) rfl (by kernel_rfl) (by kernel_rfl) (by kernel_rfl) (fun _ _ _ h => h) (Or.inl ⟨by rfl, ?_⟩) hHeld ?_
            rotate_left
            · intro w' hSw; try dsimp only at hSw
              obtain ⟨g2, _, _⟩ := hSw
              have c0 := g2.cell' (i := 0) rfl; have c1 := g2.cell' (i := 1) rfl; have c3 := g2.cell' (i := 3) rfl
              go_simp; try (with_reducible rfl)
            try simp only [Act.put, List.getElem_toArray, List.getElem_cons_succ, List.getElem_cons_zero, List.setIfInBounds_toArray, List.set_cons_zero, List.set_cons_succ]
            refine wpAnyH_take (i := 4) (v := ?_) rfl (by kernel_rfl) (by kernel_rfl) (by kernel_rfl) (fun _ _ _ h => h) (Or.inl ⟨by rfl, ?_⟩) hHeld ?_
            rotate_left
            · intro w' hSw; try dsimp only at hSw
              go_simp; try (with_reducible rfl)
            try simp only [Act.put, List.getElem_toArray, List.getElem_cons_succ, List.getElem_cons_zero, List.setIfInBounds_toArray, List.set_cons_zero, List.set_cons_succ]
            refine wpAnyH_take (i := 6) (v := ?_) rfl (by kernel_rfl) (by kernel_rfl) (by kernel_rfl) (fun _ _ _ h => h) (Or.inl ⟨by rfl, ?_⟩) hHeld ?_
            rotate_left
            · intro w' hSw; try dsimp only at hSw
              go_simp; try (with_reducible rfl)
            try simp only [Act.put, List.getElem_toArray, List.getElem_cons_succ, List.getElem_cons_zero, List.setIfInBounds_toArray, List.set_cons_zero, List.set_cons_succ]
            refine wpAnyH_take (i := 7) (v := ?_) rfl (by kernel_rfl) (by kernel_rfl) (by kernel_rfl) (fun _ _ _ h => h) (Or.inl ⟨by rfl, ?_⟩) hHeld ?_
            rotate_left
            · intro w' hSw; try dsimp only at hSw
              obtain ⟨g2, _, _⟩ := hSw
              have c0 := g2.cell' (i := 0) rfl; have c1 := g2.cell' (i := 1) rfl; have c3 := g2.cell' (i := 3) rfl
              go_simp; try (with_reducible rfl)
            try simp only [Act.put, List.getElem_toArray, List.getElem_cons_succ, List.getElem_cons_zero, List.setIfInBounds_toArray, List.set_cons_zero, List.set_cons_succ]
            refine wpAnyH_take (i := 8) (v := ?_) rfl (by kernel_rfl) (by kernel_rfl) (by kernel_rfl) (fun _ _ _ h => h) (Or.inl ⟨by rfl, ?_⟩) hHeld ?_
            rotate_left
            · intro w' hSw; try dsimp only at hSw
              go_simp; try (with_reducible rfl)
            try simp only [Act.put, List.getElem_toArray, List.getElem_cons_succ, List.getElem_cons_zero, List.setIfInBounds_toArray, List.set_cons_zero, List.set_cons_succ]
            refine wpAnyH_take (i := 9) (v := ?_) rfl (by kernel_rfl) (by kernel_rfl) (by kernel_rfl) (fun _ _ _ h => h) (Or.inl ⟨by rfl, ?_⟩) hHeld ?_
            rotate_left
            · intro w' hSw; try dsimp only at hSw
              obtain ⟨g2, _, _⟩ := hSw
              have c0 := g2.cell' (i := 0) rfl; have c1 := g2.cell' (i := 1) rfl; have c3 := g2.cell' (i := 3) rfl
              go_simp; try (with_reducible rfl)
            try simp only [Act.put, List.getElem_toArray, List.getElem_cons_succ, List.getElem_cons_zero, List.setIfInBounds_toArray, List.set_cons_zero, List.set_cons_succ]
            refine wpAnyH_take (i := 10) (v := ?_) rfl (by kernel_rfl) (by kernel_rfl) (by kernel_rfl) (fun _ _ _ h => h) (Or.inl ⟨by rfl, ?_⟩) hHeld ?_
            rotate_left
            · intro w' hSw; try dsimp only at hSw
              go_simp; try (with_reducible rfl)
            try simp only [Act.put, List.getElem_toArray, List.getElem_cons_succ, List.getElem_cons_zero, List.setIfInBounds_toArray, List.set_cons_zero, List.set_cons_succ]
            refine wpAnyH_take (i := 11) (v := ?_) rfl (by kernel_rfl) (by kernel_rfl) (by kernel_rfl) (fun _ _ _ h => h) (Or.inl ⟨by rfl, ?_⟩) hHeld ?_
            rotate_left
            · intro w' hSw; try dsimp only at hSw
              obtain ⟨g2, _, _⟩ := hSw
              have c0 := g2.cell' (i := 0) rfl; have c1 := g2.cell' (i := 1) rfl; have c3 := g2.cell' (i := 3) rfl
              go_simp; try (with_reducible rfl)
            try simp only [Act.put, List.getElem_toArray, List.getElem_cons_succ, List.getElem_cons_zero, List.setIfInBounds_toArray, List.set_cons_zero, List.set_cons_succ]
            refine wpAnyH_ready (rs := [5]) (by kernel_rfl) (by simp) ?_
            refine AllReadyH.cons rfl (fun K hK => ?_) AllReadyH.nil
            go_simp
            have hI2 := hI.below hHeld.2.2
            refine (newest_all P Lg _ _ _ _ _ hI2).mono ?_
            rintro e Wn ⟨pn, mn, rfl, hn1, hbn⟩
            try go_wp2_with fail
            refine hK.out _ _ ⟨hHeld.1.kept hbn, bt hHeld.2.1 hbn, bt hHeld.2.2 hbn⟩ (fun hHeld => ?_)
            clear hK K
            try simp only [Act.put, List.getElem_toArray, List.getElem_cons_succ, List.getElem_cons_zero, List.setIfInBounds_toArray, List.set_cons_zero, List.set_cons_succ]
            refine wpAnyH_ready (rs := [12]) (by kernel_rfl) (by simp) ?_
            refine AllReadyH.cons rfl (fun K hK => ?_) AllReadyH.nil
            go_simp
            have hx2 := hx.below hHeld.2.1
            refine (newest_all P Lg _ _ _ _ _ hx2).mono ?_
            rintro e Wm ⟨pm, mm, rfl, hm1, hbm⟩
            try go_wp2_with fail
            refine hK.out _ _ ⟨hHeld.1.kept hbm, bt hHeld.2.1 hbm, bt hHeld.2.2 hbm⟩ (fun hHeld => ?_)
            clear hK K
            try simp only [Act.put, List.getElem_toArray, List.getElem_cons_succ, List.getElem_cons_zero, List.setIfInBounds_toArray, List.set_cons_zero, List.set_cons_succ]
            rw [HN.out] at hn1
            obtain rfl : mn = mm := hn1.len.symm.trans hm1.len
            replace hn1 := hn1.below hbm
            refine wpAnyH_ready (rs := [13]) (by kernel_rfl) (by simp) ?_
            refine AllReadyH.cons rfl (fun K hK => ?_) AllReadyH.nil
            go_simp
            refine (samePlaces_yes pn pm mn mn mn _ _ hn1 hm1).mono ?_
            rintro e Ws ⟨rfl, hbs⟩
            try go_wp2_with fail
            refine hK.out _ _ ⟨hHeld.1.kept hbs, bt hHeld.2.1 hbs, bt hHeld.2.2 hbs⟩ (fun hHeld => ?_)
            clear hK K
            try simp only [Act.put, List.getElem_toArray, List.getElem_cons_succ, List.getElem_cons_zero, List.setIfInBounds_toArray, List.set_cons_zero, List.set_cons_succ]
            refine wpAnyH_take (i := 14) (v := ?_) rfl (by kernel_rfl) (by kernel_rfl) (by kernel_rfl) (fun _ _ _ h => h) (Or.inl ⟨by rfl, ?_⟩) hHeld ?_
            rotate_left
            · intro w' hSw; try dsimp only at hSw
              go_simp; try (with_reducible rfl)
            try simp only [Act.put, List.getElem_toArray, List.getElem_cons_succ, List.getElem_cons_zero, List.setIfInBounds_toArray, List.set_cons_zero, List.set_cons_succ]
            refine wpAnyH_done (by kernel_rfl) ?_ _
            refine NoPanic.normal ?_
            go_wp2_with fail
            go_ret
            exact ⟨rfl, hHeld.2.1⟩
          refine AllReadyH.cons rfl (fun K hK => ?_) AllReadyH.nil
          go_simp
          refine hK.out _ _ ⟨hHeld.1.alloc _, hHeld.2.1.alloc _, bt hHeld.2.2.1 (below_alloc _ _), bt hHeld.2.2.2 (below_alloc _ _)⟩ (fun hHeld => ?_)
          clear hK K
          try simp only [Act.put, List.getElem_toArray, List.getElem_cons_succ, List.getElem_cons_zero, List.setIfInBounds_toArray, List.set_cons_zero, List.set_cons_succ]
          have hlit := (Blk.new' W8 33 #[.int .i64 ph, .int .i64 pg, .int .i64 xk, .int .i64 xp, .int .i64 (xs' - (by' : Int)), .int .i64 xt]).drew
          have hg6 : g6 < W8.heap.size := b6.lt
          have hs8 := hHeld.2.2.2.size
          generalize (W8.alloc (.cells #[.int .i64 ph, .int .i64 pg, .int .i64 xk, .int .i64 xp, .int .i64 (xs' - (by' : Int)), .int .i64 xt] 33)).drew = Wl at *
          refine wpAnyH_ready (rs := [2]) (by kernel_rfl) (by simp) ?_
          refine AllReadyH.cons rfl (fun K hK => ?_) AllReadyH.nil
          go_simp
          refine (cloneF_any _ n c xs _ (hx.below hHeld.2.2.1) (by omega)).mono ?_
          rintro e Wc ⟨pc, cc, rfl, hown, hbc⟩
          try go_wp2_with fail
          refine hK.out _ _ ⟨hHeld.1.kept hbc, hHeld.2.1.kept hbc, bt hHeld.2.2.1 hbc, bt hHeld.2.2.2 hbc⟩ (fun hHeld => ?_)
          clear hK K
          try simp only [Act.put, List.getElem_toArray, List.getElem_cons_succ, List.getElem_cons_zero, List.setIfInBounds_toArray, List.set_cons_zero, List.set_cons_succ]
          replace hlit := hlit.kept hbc
          have hBc0 := hbc.size
          obtain ⟨Bc, HBc⟩ : ∃ B, B = Wl.heap.size := ⟨_, rfl⟩
          rw [← HBc] at hown
          have hB8 : W8.heap.size ≤ Bc := by rw [HBc]; exact hs8
          have hBc : Bc ≤ Wc.heap.size := by rw [HBc]; exact hBc0
          clear HBc hBc0
          refine wpAnyH_ready (rs := [5]) (by kernel_rfl) (by simp) ?_
          refine AllReadyH.cons rfl (fun K hK => ?_) AllReadyH.nil
          rw [if_pos (by rfl)]
          refine wp_append_found (.tmp 92) (.tmp 94) rfl Bc _ n xs ⟨ph, pg, xk, xp, xs' - (by' : Int), xt⟩ _ (W8.heap.size) rfl hown rfl hlit (by omega) hBc ?_
          intro pa ca Wa hoa _ hba
          refine hK.out _ _ ⟨hHeld.1.below hba (by omega), hHeld.2.1.below hba (by omega), hHeld.2.2.1.trans (hba.mono (by omega)), hHeld.2.2.2.trans (hba.mono (by omega))⟩ (fun hHeld => ?_)
          clear hK K
          try simp only [Act.put, List.getElem_toArray, List.getElem_cons_succ, List.getElem_cons_zero, List.setIfInBounds_toArray, List.set_cons_zero, List.set_cons_succ]
          refine wpAnyH_take (i := 6) (v := ?_) rfl (by kernel_rfl) (by kernel_rfl) (by kernel_rfl) (fun _ _ _ h => h) (Or.inl ⟨by rfl, ?_⟩) hHeld ?_
          rotate_left
          · intro w' hSw; try dsimp only at hSw
            go_simp; try (with_reducible rfl)
          try simp only [Act.put, List.getElem_toArray, List.getElem_cons_succ, List.getElem_cons_zero, List.setIfInBounds_toArray, List.set_cons_zero, List.set_cons_succ]
          refine wpAnyH_done (by kernel_rfl) ?_ _
          refine NoPanic.normal ?_
          obtain ⟨pI, cI, hvI, hI⟩ := in_of_ownsF hoa (by omega)
          cases hvI
          obtain ⟨d2, -, hbW, -⟩ := hHeld
          clear hown hlit hoa hba b2 b6 hb0
          go_wp2_with fail
          refine wp_region_noPanic ?_
          refine wp_region_held_drew (S := fun W => Blk W w.heap.size 39 [.int .i64 P, .int .i64 Lg, .int .i64 K, .slice (some ⟨b, o, none⟩) n c, .slice q m d] ∧ Below w.heap.size w W ∧ Below Wa.heap.size Wa W) (by kernel_rfl) ⟨d2.drew, hbW.drew, (Below.refl _ _).drew⟩ (fun hHeld => ?_)
          refine wpAnyH_take (i := 0) (v := ?_) rfl (by kernel_rfl) (by kernel_rfl) (by kernel_rfl) (fun _ _ _ h => h) (Or.inl ⟨by rfl, ?_⟩) hHeld ?_
          rotate_left
          · intro w' hSw; try dsimp only at hSw
            go_simp; try (with_reducible rfl)
          try simp only [Act.put, List.getElem_toArray, List.getElem_cons_succ, List.getElem_cons_zero, List.setIfInBounds_toArray, List.set_cons_zero, List.set_cons_succ]
          refine wpAnyH_take (i := 1) (v := ?_) rfl (by kernel_rfl) (by kernel_rfl) (by kernel_rfl) (fun _ _ _ h => h) (Or.inl ⟨by rfl, ?_⟩) hHeld ?_
          rotate_left
          · intro w' hSw; try dsimp only at hSw
            obtain ⟨g2, _, _⟩ := hSw
            have c0 := g2.cell' (i := 0) rfl; have c1 := g2.cell' (i := 1) rfl; have c3 := g2.cell' (i := 3) rfl
            go_simp; try (with_reducible rfl)
          try simp only [Act.put, List.getElem_toArray, List.getElem_cons_succ, List.getElem_cons_zero, List.setIfInBounds_toArray, List.set_cons_zero, List.set_cons_succ]
          refine wpAnyH_take (i := 2) (v := ?_) rfl (by kernel_rfl) (by kernel_rfl) (by kernel_rfl) (fun _ _ _ h => h) (Or.inl ⟨by rfl, ?_⟩) hHeld ?_
          rotate_left
          · intro w' hSw; try dsimp only at hSw
            go_simp; try (with_reducible rfl)
          try simp only [Act.put, List.getElem_toArray, List.getElem_cons_succ, List.getElem_cons_zero, List.setIfInBounds_toArray, List.set_cons_zero, List.set_cons_succ]
          refine wpAnyH_take (i := 3) (v := ?_) rfl (by kernel_rfl) (by kernel_rfl) (by kernel_rfl) (fun _ _ _ h => h) (Or.inl ⟨by rfl, ?_⟩) hHeld ?_
          rotate_left
          · intro w' hSw; try dsimp only at hSw
            obtain ⟨g2, _, _⟩ := hSw
            have c0 := g2.cell' (i := 0) rfl; have c1 := g2.cell' (i := 1) rfl; have c3 := g2.cell' (i := 3) rfl
            go_simp; try (with_reducible rfl)
          try simp only [Act.put, List.getElem_toArray, List.getElem_cons_succ, List.getElem_cons_zero, List.setIfInBounds_toArray, List.set_cons_zero, List.set_cons_succ]
          refine wpAnyH_take (i := 4) (v := ?_) rfl (by kernel_rfl) (by kernel_rfl) (by kernel_rfl) (fun _ _ _ h => h) (Or.inl ⟨by rfl, ?_⟩) hHeld ?_
          rotate_left
          · intro w' hSw; try dsimp only at hSw
            go_simp; try (with_reducible rfl)
          try simp only [Act.put, List.getElem_toArray, List.getElem_cons_succ, List.getElem_cons_zero, List.setIfInBounds_toArray, List.set_cons_zero, List.set_cons_succ]
          refine wpAnyH_take (i := 6) (v := ?_) rfl (by kernel_rfl) (by kernel_rfl) (by kernel_rfl) (fun _ _ _ h => h) (Or.inl ⟨by rfl, ?_⟩) hHeld ?_
          rotate_left
          · intro w' hSw; try dsimp only at hSw
            go_simp; try (with_reducible rfl)
          try simp only [Act.put, List.getElem_toArray, List.getElem_cons_succ, List.getElem_cons_zero, List.setIfInBounds_toArray, List.set_cons_zero, List.set_cons_succ]
          refine wpAnyH_take (i := 7) (v := ?_) rfl (by kernel_rfl) (by kernel_rfl) (by kernel_rfl) (fun _ _ _ h => h) (Or.inl ⟨by rfl, ?_⟩) hHeld ?_
          rotate_left
          · intro w' hSw; try dsimp only at hSw
            obtain ⟨g2, _, _⟩ := hSw
            have c0 := g2.cell' (i := 0) rfl; have c1 := g2.cell' (i := 1) rfl; have c3 := g2.cell' (i := 3) rfl
            go_simp; try (with_reducible rfl)
          try simp only [Act.put, List.getElem_toArray, List.getElem_cons_succ, List.getElem_cons_zero, List.setIfInBounds_toArray, List.set_cons_zero, List.set_cons_succ]
          refine wpAnyH_take (i := 8) (v := ?_) rfl (by kernel_rfl) (by kernel_rfl) (by kernel_rfl) (fun _ _ _ h => h) (Or.inl ⟨by rfl, ?_⟩) hHeld ?_
          rotate_left
          · intro w' hSw; try dsimp only at hSw
            go_simp; try (with_reducible rfl)
          try simp only [Act.put, List.getElem_toArray, List.getElem_cons_succ, List.getElem_cons_zero, List.setIfInBounds_toArray, List.set_cons_zero, List.set_cons_succ]
          refine wpAnyH_take (i := 9) (v := ?_) rfl (by kernel_rfl) (by kernel_rfl) (by kernel_rfl) (fun _ _ _ h => h) (Or.inl ⟨by rfl, ?_⟩) hHeld ?_
          rotate_left
          · intro w' hSw; try dsimp only at hSw
            obtain ⟨g2, _, _⟩ := hSw
            have c0 := g2.cell' (i := 0) rfl; have c1 := g2.cell' (i := 1) rfl; have c3 := g2.cell' (i := 3) rfl
            go_simp; try (with_reducible rfl)
          try simp only [Act.put, List.getElem_toArray, List.getElem_cons_succ, List.getElem_cons_zero, List.setIfInBounds_toArray, List.set_cons_zero, List.set_cons_succ]
          refine wpAnyH_take (i := 10) (v := ?_) rfl (by kernel_rfl) (by kernel_rfl) (by kernel_rfl) (fun _ _ _ h => h) (Or.inl ⟨by rfl, ?_⟩) hHeld ?_
          rotate_left
          · intro w' hSw; try dsimp only at hSw
            go_simp; try (with_reducible rfl)
          try simp only [Act.put, List.getElem_toArray, List.getElem_cons_succ, List.getElem_cons_zero, List.setIfInBounds_toArray, List.set_cons_zero, List.set_cons_succ]
          refine wpAnyH_take (i := 11) (v := ?_) rfl (by kernel_rfl) (by kernel_rfl) (by kernel_rfl) (fun _ _ _ h => h) (Or.inl ⟨by rfl, ?_⟩) hHeld ?_
          rotate_left
          · intro w' hSw; try dsimp only at hSw
            obtain ⟨g2, _, _⟩ := hSw
            have c0 := g2.cell' (i := 0) rfl; have c1 := g2.cell' (i := 1) rfl; have c3 := g2.cell' (i := 3) rfl
            go_simp; try (with_reducible rfl)
          try simp only [Act.put, List.getElem_toArray, List.getElem_cons_succ, List.getElem_cons_zero, List.setIfInBounds_toArray, List.set_cons_zero, List.set_cons_succ]
          refine wpAnyH_ready (rs := [5]) (by kernel_rfl) (by simp) ?_
          refine AllReadyH.cons rfl (fun K hK => ?_) AllReadyH.nil
          go_simp
          have hI2 := hI.below hHeld.2.2
          refine (newest_all P Lg _ _ _ _ _ hI2).mono ?_
          rintro e Wn ⟨pn, mn, rfl, hn1, hbn⟩
          try go_wp2_with fail
          refine hK.out _ _ ⟨hHeld.1.kept hbn, bt hHeld.2.1 hbn, bt hHeld.2.2 hbn⟩ (fun hHeld => ?_)
          clear hK K
          try simp only [Act.put, List.getElem_toArray, List.getElem_cons_succ, List.getElem_cons_zero, List.setIfInBounds_toArray, List.set_cons_zero, List.set_cons_succ]
          refine wpAnyH_ready (rs := [12]) (by kernel_rfl) (by simp) ?_
          refine AllReadyH.cons rfl (fun K hK => ?_) AllReadyH.nil
          go_simp
          have hx2 := hx.below hHeld.2.1
          refine (newest_all P Lg _ _ _ _ _ hx2).mono ?_
          rintro e Wm ⟨pm, mm, rfl, hm1, hbm⟩
          try go_wp2_with fail
          refine hK.out _ _ ⟨hHeld.1.kept hbm, bt hHeld.2.1 hbm, bt hHeld.2.2 hbm⟩ (fun hHeld => ?_)
          clear hK K
          try simp only [Act.put, List.getElem_toArray, List.getElem_cons_succ, List.getElem_cons_zero, List.setIfInBounds_toArray, List.set_cons_zero, List.set_cons_succ]
          rw [HN.out] at hn1
          obtain rfl : mn = mm := hn1.len.symm.trans hm1.len
          replace hn1 := hn1.below hbm
          refine wpAnyH_ready (rs := [13]) (by kernel_rfl) (by simp) ?_
          refine AllReadyH.cons rfl (fun K hK => ?_) AllReadyH.nil
          go_simp
          refine (samePlaces_yes pn pm mn mn mn _ _ hn1 hm1).mono ?_
          rintro e Ws ⟨rfl, hbs⟩
          try go_wp2_with fail
          refine hK.out _ _ ⟨hHeld.1.kept hbs, bt hHeld.2.1 hbs, bt hHeld.2.2 hbs⟩ (fun hHeld => ?_)
          clear hK K
          try simp only [Act.put, List.getElem_toArray, List.getElem_cons_succ, List.getElem_cons_zero, List.setIfInBounds_toArray, List.set_cons_zero, List.set_cons_succ]
          refine wpAnyH_take (i := 14) (v := ?_) rfl (by kernel_rfl) (by kernel_rfl) (by kernel_rfl) (fun _ _ _ h => h) (Or.inl ⟨by rfl, ?_⟩) hHeld ?_
          rotate_left
          · intro w' hSw; try dsimp only at hSw
            go_simp; try (with_reducible rfl)
          try simp only [Act.put, List.getElem_toArray, List.getElem_cons_succ, List.getElem_cons_zero, List.setIfInBounds_toArray, List.set_cons_zero, List.set_cons_succ]
          refine wpAnyH_done (by kernel_rfl) ?_ _
          refine NoPanic.normal ?_
          go_wp2_with fail
          go_ret
          exact ⟨rfl, hHeld.2.1⟩
end Go.Proofs.Ytfgelncfmopibaa
