/-
  P7.4, ScanOrder: in whatever order things are found, the newest are the same, and the greatest Stamp.
-/
import Derived.Test.YtfgelncfmopibaaSnRev
namespace Go.Proofs.Ytfgelncfmopibaa
open Go.RowKit
theorem reverse0 (p : Option Addr) (c : Nat) (w : World) : Calls Try.prog 30 #[.slice p 0 c] w fun e w' => e = .returned (.tuple #[]) ∧ w' = w := by
  go_enter Try.func30, Try.ntmps30
  go_wp2
  go_loop [2, 3] (fun i j => i = .int .i64 0 ∧ j = .int .i64 (-1)) (fun _ _ => 0)
  case atStart => exact ⟨rfl, rfl⟩
  case round =>
    obtain ⟨rfl, rfl⟩ := hrel
    go_wp2
    go_end0
    exact ⟨rfl, rfl⟩
theorem mem_rot {xs : List Fd} {k : Nat} (f : Fd) : f ∈ xs ↔ f ∈ (xs.drop k ++ xs.take k).reverse := by
  rw [List.mem_reverse, List.mem_append]
  constructor
  · intro h
    rw [← List.take_append_drop k xs, List.mem_append] at h
    exact h.symm
  · rintro (h | h)
    · exact List.mem_of_mem_drop h
    · exact List.mem_of_mem_take h
set_option linter.unusedSimpArgs false in
set_option maxRecDepth 100000 in
set_option maxHeartbeats 8000000 in
theorem scanOrder_true (P Lg K : Int) (p q : Option Addr) (n c m d : Nat) (xs : List Fd) (tu : Nat) (htu : tu < 256) (w : World) (hx : InF w p n c xs) :
    Calls Try.prog 7 #[.agg #[.int .i64 P, .int .i64 Lg, .int .i64 K, .slice p n c, .slice q m d], .int .u8 (tu : Int)] w fun e w' => e = .returned (.bool true) ∧ Below w.heap.size w w' := by
  have hb0 := below_alloc w (.cells #[.int .i64 P, .int .i64 Lg, .int .i64 K, .slice p n c, .slice q m d] 39)
  have b2 := Blk.new' w 39 #[.int .i64 P, .int .i64 Lg, .int .i64 K, .slice p n c, .slice q m d]
  have hti : (tu : Int) ≤ 255 := by omega
  cases hf : fewB n m Lg with
  | false =>
    go_enter Try.func7, Try.ntmps7
    go_upto_region 1 with (fail)
    generalize w.alloc (.cells #[.int .i64 P, .int .i64 Lg, .int .i64 K, .slice p n c, .slice q m d] 39) = W0 at *
    go_wp2_with (first | (go_at_call 9; refine (live_any _).mono ?_; rintro e w1 ⟨rfl, hbn⟩; replace b2 := b2.kept hbn; replace hb0 := bt hb0 hbn; clear hbn; have c0 := b2.cell' (i := 0) rfl; have c1 := b2.cell' (i := 1) rfl; have c2 := b2.cell' (i := 2) rfl; have c3 := b2.cell' (i := 3) rfl; have c4 := b2.cell' (i := 4) rfl) | (go_at_call 13; refine (few_any _ _ _ _ _ _ _ _ _ _).mono ?_; rintro e w1 ⟨rfl, hbn⟩; replace b2 := b2.kept hbn; replace hb0 := bt hb0 hbn; clear hbn; have c0 := b2.cell' (i := 0) rfl; have c1 := b2.cell' (i := 1) rfl; have c2 := b2.cell' (i := 2) rfl; have c3 := b2.cell' (i := 3) rfl; have c4 := b2.cell' (i := 4) rfl))
    go_ret
    exact ⟨rfl, hb0⟩
  | true =>
    have hn80 : n ≤ 80 := by
      unfold fewB at hf
      simp only [Bool.and_eq_true, decide_eq_true_eq] at hf
      omega
    have hn6 : n ≤ 100000000 := by omega
    have hnb : (n : Int) ≤ 80 := by omega
    go_enter Try.func7, Try.ntmps7
    go_upto_region 1 with (fail)
    generalize w.alloc (.cells #[.int .i64 P, .int .i64 Lg, .int .i64 K, .slice p n c, .slice q m d] 39) = W0 at *
    by_cases hn0 : n = 0
    · subst hn0
      have hxn : xs = [] := List.eq_nil_of_length_eq_zero hx.len
      subst hxn
      go_upto_region 9 with (first | (go_at_call 9; refine (live_any _).mono ?_; rintro e w1 ⟨rfl, hbn⟩; replace b2 := b2.kept hbn; replace hb0 := bt hb0 hbn; clear hbn; have c0 := b2.cell' (i := 0) rfl; have c1 := b2.cell' (i := 1) rfl; have c2 := b2.cell' (i := 2) rfl; have c3 := b2.cell' (i := 3) rfl; have c4 := b2.cell' (i := 4) rfl) | (go_at_call 13; refine (few_any _ _ _ _ _ _ _ _ _ _).mono ?_; rintro e w1 ⟨rfl, hbn⟩; replace b2 := b2.kept hbn; replace hb0 := bt hb0 hbn; clear hbn; have c0 := b2.cell' (i := 0) rfl; have c1 := b2.cell' (i := 1) rfl; have c2 := b2.cell' (i := 2) rfl; have c3 := b2.cell' (i := 3) rfl; have c4 := b2.cell' (i := 4) rfl) | (go_at_call 29; refine (cloneF_any _ _ _ _ _ (hx.below hb0) hn6).mono ?_; rintro e wc ⟨pc, cc, rfl, hown, hbn⟩; have hlt0 := b2.lt; have hbs := hbn.size; have hbw := hb0.size; replace b2 := b2.kept hbn; replace hb0 := bt hb0 hbn; clear hbn; have c0 := b2.cell' (i := 0) rfl; have c1 := b2.cell' (i := 1) rfl; have c2 := b2.cell' (i := 2) rfl; have c3 := b2.cell' (i := 3) rfl; have c4 := b2.cell' (i := 4) rfl))
      obtain ⟨p2, c2', hv, hI⟩ := in_of_ownsF hown (by omega)
      cases hv
      clear c0 c1 c2 c3 c4
      go_upto_region 10 with (go_at_call 30; refine (reverse0 _ _ _).mono ?_; rintro e w9 ⟨rfl, hw9⟩; have hw10 := hw9.symm; subst hw10; clear hw9)
      have hIr := hI
      generalize wc = W8 at *
      clear hown hI hbs
      refine wp_region_noPanic ?_
      refine wp_region_held_drew (S := fun W => Blk W w.heap.size 39 [.int .i64 P, .int .i64 Lg, .int .i64 K, .slice p 0 c, .slice q m d] ∧ Below w.heap.size w W ∧ Below W8.heap.size W8 W) (by kernel_rfl) ⟨b2.drew, hb0.drew, (Below.refl _ _).drew⟩ (fun hHeld => ?_)
      refine wpAnyH_take (i := 0) (v := ?_) rfl (by kernel_rfl) (by kernel_rfl) (by kernel_rfl) (fun _ _ _ h => h) (Or.inl ⟨by rfl, ?_⟩) hHeld ?_
      rotate_left
      · intro w' hSw; try dsimp only at hSw
        go_simp; try (with_reducible rfl)
      try simp only [Act.put, List.getElem_toArray, List.getElem_cons_succ, List.getElem_cons_zero, List.setIfInBounds_toArray, List.set_cons_zero, List.set_cons_succ]
      refine wpAnyH_take (i := 1) (v := ?_) rfl (by kernel_rfl) (by kernel_rfl) (by kernel_rfl) (fun _ _ _ h => h) (Or.inl ⟨by rfl, ?_⟩) hHeld ?_
      rotate_left
      · intro w' hSw; try dsimp only at hSw
        obtain ⟨g2, _, _⟩ := hSw
        have c0 := g2.cell' (i := 0) rfl; have c1 := g2.cell' (i := 1) rfl; have c3 := g2.cell' (i := 3) rfl
        go_simp; try (with_reducible rfl)
      try simp only [Act.put, List.getElem_toArray, List.getElem_cons_succ, List.getElem_cons_zero, List.setIfInBounds_toArray, List.set_cons_zero, List.set_cons_succ]
      refine wpAnyH_take (i := 2) (v := ?_) rfl (by kernel_rfl) (by kernel_rfl) (by kernel_rfl) (fun _ _ _ h => h) (Or.inl ⟨by rfl, ?_⟩) hHeld ?_
      rotate_left
      · intro w' hSw; try dsimp only at hSw
        go_simp; try (with_reducible rfl)
      try simp only [Act.put, List.getElem_toArray, List.getElem_cons_succ, List.getElem_cons_zero, List.setIfInBounds_toArray, List.set_cons_zero, List.set_cons_succ]
      refine wpAnyH_take (i := 3) (v := ?_) rfl (by kernel_rfl) (by kernel_rfl) (by kernel_rfl) (fun _ _ _ h => h) (Or.inl ⟨by rfl, ?_⟩) hHeld ?_
      rotate_left
      · intro w' hSw; try dsimp only at hSw
        obtain ⟨g2, _, _⟩ := hSw
        have c0 := g2.cell' (i := 0) rfl; have c1 := g2.cell' (i := 1) rfl; have c3 := g2.cell' (i := 3) rfl
        go_simp; try (with_reducible rfl)
      try simp only [Act.put, List.getElem_toArray, List.getElem_cons_succ, List.getElem_cons_zero, List.setIfInBounds_toArray, List.set_cons_zero, List.set_cons_succ]
      refine wpAnyH_take (i := 4) (v := ?_) rfl (by kernel_rfl) (by kernel_rfl) (by kernel_rfl) (fun _ _ _ h => h) (Or.inl ⟨by rfl, ?_⟩) hHeld ?_
      rotate_left
      · intro w' hSw; try dsimp only at hSw
        go_simp; try (with_reducible rfl)
      try simp only [Act.put, List.getElem_toArray, List.getElem_cons_succ, List.getElem_cons_zero, List.setIfInBounds_toArray, List.set_cons_zero, List.set_cons_succ]
      refine wpAnyH_take (i := 6) (v := ?_) rfl (by kernel_rfl) (by kernel_rfl) (by kernel_rfl) (fun _ _ _ h => h) (Or.inl ⟨by rfl, ?_⟩) hHeld ?_
      rotate_left
      · intro w' hSw; try dsimp only at hSw
        go_simp; try (with_reducible rfl)
      try simp only [Act.put, List.getElem_toArray, List.getElem_cons_succ, List.getElem_cons_zero, List.setIfInBounds_toArray, List.set_cons_zero, List.set_cons_succ]
      refine wpAnyH_take (i := 7) (v := ?_) rfl (by kernel_rfl) (by kernel_rfl) (by kernel_rfl) (fun _ _ _ h => h) (Or.inl ⟨by rfl, ?_⟩) hHeld ?_
      rotate_left
      · intro w' hSw; try dsimp only at hSw
        obtain ⟨g2, _, _⟩ := hSw
        have c0 := g2.cell' (i := 0) rfl; have c1 := g2.cell' (i := 1) rfl; have c3 := g2.cell' (i := 3) rfl
        go_simp; try (with_reducible rfl)
      try simp only [Act.put, List.getElem_toArray, List.getElem_cons_succ, List.getElem_cons_zero, List.setIfInBounds_toArray, List.set_cons_zero, List.set_cons_succ]
      refine wpAnyH_take (i := 8) (v := ?_) rfl (by kernel_rfl) (by kernel_rfl) (by kernel_rfl) (fun _ _ _ h => h) (Or.inl ⟨by rfl, ?_⟩) hHeld ?_
      rotate_left
      · intro w' hSw; try dsimp only at hSw
        go_simp; try (with_reducible rfl)
      try simp only [Act.put, List.getElem_toArray, List.getElem_cons_succ, List.getElem_cons_zero, List.setIfInBounds_toArray, List.set_cons_zero, List.set_cons_succ]
      refine wpAnyH_take (i := 9) (v := ?_) rfl (by kernel_rfl) (by kernel_rfl) (by kernel_rfl) (fun _ _ _ h => h) (Or.inl ⟨by rfl, ?_⟩) hHeld ?_
      rotate_left
      · intro w' hSw; try dsimp only at hSw
        obtain ⟨g2, _, _⟩ := hSw
        have c0 := g2.cell' (i := 0) rfl; have c1 := g2.cell' (i := 1) rfl; have c3 := g2.cell' (i := 3) rfl
        go_simp; try (with_reducible rfl)
      try simp only [Act.put, List.getElem_toArray, List.getElem_cons_succ, List.getElem_cons_zero, List.setIfInBounds_toArray, List.set_cons_zero, List.set_cons_succ]
      refine wpAnyH_take (i := 10) (v := ?_) rfl (by kernel_rfl) (by kernel_rfl) (by kernel_rfl) (fun _ _ _ h => h) (Or.inl ⟨by rfl, ?_⟩) hHeld ?_
      rotate_left
      · intro w' hSw; try dsimp only at hSw
        go_simp; try (with_reducible rfl)
      try simp only [Act.put, List.getElem_toArray, List.getElem_cons_succ, List.getElem_cons_zero, List.setIfInBounds_toArray, List.set_cons_zero, List.set_cons_succ]
      refine wpAnyH_take (i := 11) (v := ?_) rfl (by kernel_rfl) (by kernel_rfl) (by kernel_rfl) (fun _ _ _ h => h) (Or.inl ⟨by rfl, ?_⟩) hHeld ?_
      rotate_left
      · intro w' hSw; try dsimp only at hSw
        obtain ⟨g2, _, _⟩ := hSw
        have c0 := g2.cell' (i := 0) rfl; have c1 := g2.cell' (i := 1) rfl; have c3 := g2.cell' (i := 3) rfl
        go_simp; try (with_reducible rfl)
      try simp only [Act.put, List.getElem_toArray, List.getElem_cons_succ, List.getElem_cons_zero, List.setIfInBounds_toArray, List.set_cons_zero, List.set_cons_succ]
      refine wpAnyH_ready (rs := [5]) (by kernel_rfl) (by simp) ?_
      refine AllReadyH.cons rfl (fun K hK => ?_) AllReadyH.nil
      go_simp
      have hI1 := hIr.below hHeld.2.2
      refine (newest_all P Lg _ _ _ _ _ hI1).mono ?_
      rintro e Wn ⟨pn, mn, rfl, hn1, hbn⟩
      try go_wp2_with fail
      refine hK.out _ _ ⟨hHeld.1.kept hbn, bt hHeld.2.1 hbn, bt hHeld.2.2 hbn⟩ (fun hHeld => ?_)
      clear hK K
      try simp only [Act.put, List.getElem_toArray, List.getElem_cons_succ, List.getElem_cons_zero, List.setIfInBounds_toArray, List.set_cons_zero, List.set_cons_succ]
      refine wpAnyH_ready (rs := [12]) (by kernel_rfl) (by simp) ?_
      refine AllReadyH.cons rfl (fun K hK => ?_) AllReadyH.nil
      go_simp
      have hx2 := hx.below hHeld.2.1
      refine (newest_all P Lg _ _ _ _ _ hx2).mono ?_
      rintro e Wm ⟨pm, mm, rfl, hm1, hbm⟩
      try go_wp2_with fail
      refine hK.out _ _ ⟨hHeld.1.kept hbm, bt hHeld.2.1 hbm, bt hHeld.2.2 hbm⟩ (fun hHeld => ?_)
      clear hK K
      try simp only [Act.put, List.getElem_toArray, List.getElem_cons_succ, List.getElem_cons_zero, List.setIfInBounds_toArray, List.set_cons_zero, List.set_cons_succ]
      obtain rfl : mn = mm := hn1.len.symm.trans hm1.len
      replace hn1 := hn1.below hbm
      refine wpAnyH_ready (rs := [13]) (by kernel_rfl) (by simp) ?_
      refine AllReadyH.cons rfl (fun K hK => ?_) AllReadyH.nil
      go_simp
      refine (samePlaces_yes pn pm mn mn mn _ _ hn1 hm1).mono ?_
      rintro e Ws ⟨rfl, hbs⟩
      try go_wp2_with fail
      refine hK.out _ _ ⟨hHeld.1.kept hbs, bt hHeld.2.1 hbs, bt hHeld.2.2 hbs⟩ (fun hHeld => ?_)
      clear hK K
      try simp only [Act.put, List.getElem_toArray, List.getElem_cons_succ, List.getElem_cons_zero, List.setIfInBounds_toArray, List.set_cons_zero, List.set_cons_succ]
      refine wpAnyH_take (i := 14) (v := ?_) rfl (by kernel_rfl) (by kernel_rfl) (by kernel_rfl) (fun _ _ _ h => h) (Or.inl ⟨by rfl, ?_⟩) hHeld ?_
      rotate_left
      · intro w' hSw; try dsimp only at hSw
        go_simp; try (with_reducible rfl)
      try simp only [Act.put, List.getElem_toArray, List.getElem_cons_succ, List.getElem_cons_zero, List.setIfInBounds_toArray, List.set_cons_zero, List.set_cons_succ]
      refine wpAnyH_take (i := 15) (v := ?_) rfl (by kernel_rfl) (by kernel_rfl) (by kernel_rfl) (fun _ _ _ h => h) (Or.inl ⟨by rfl, ?_⟩) hHeld ?_
      rotate_left
      · intro w' hSw; try dsimp only at hSw
        go_simp; try (with_reducible rfl)
      try simp only [Act.put, List.getElem_toArray, List.getElem_cons_succ, List.getElem_cons_zero, List.setIfInBounds_toArray, List.set_cons_zero, List.set_cons_succ]
      refine wpAnyH_take (i := 17) (v := ?_) rfl (by kernel_rfl) (by kernel_rfl) (by kernel_rfl) (fun _ _ _ h => h) (Or.inl ⟨by rfl, ?_⟩) hHeld ?_
      rotate_left
      · intro w' hSw; try dsimp only at hSw
        go_simp; try (with_reducible rfl)
      try simp only [Act.put, List.getElem_toArray, List.getElem_cons_succ, List.getElem_cons_zero, List.setIfInBounds_toArray, List.set_cons_zero, List.set_cons_succ]
      refine wpAnyH_take (i := 18) (v := ?_) rfl (by kernel_rfl) (by kernel_rfl) (by kernel_rfl) (fun _ _ _ h => h) (Or.inl ⟨by rfl, ?_⟩) hHeld ?_
      rotate_left
      · intro w' hSw; try dsimp only at hSw
        obtain ⟨g2, _, _⟩ := hSw
        have c0 := g2.cell' (i := 0) rfl; have c1 := g2.cell' (i := 1) rfl; have c3 := g2.cell' (i := 3) rfl
        go_simp; try (with_reducible rfl)
      try simp only [Act.put, List.getElem_toArray, List.getElem_cons_succ, List.getElem_cons_zero, List.setIfInBounds_toArray, List.set_cons_zero, List.set_cons_succ]
      refine wpAnyH_ready (rs := [16]) (by kernel_rfl) (by simp) ?_
      refine AllReadyH.cons rfl (fun K hK => ?_) AllReadyH.nil
      go_simp
      have hI3 := hIr.below hHeld.2.2
      refine (greatest_any _ _ _ _ _ hI3).mono ?_
      rintro e Wg ⟨rfl, hbg⟩
      try go_wp2_with fail
      refine hK.out _ _ ⟨hHeld.1.kept hbg, bt hHeld.2.1 hbg, bt hHeld.2.2 hbg⟩ (fun hHeld => ?_)
      clear hK K
      try simp only [Act.put, List.getElem_toArray, List.getElem_cons_succ, List.getElem_cons_zero, List.setIfInBounds_toArray, List.set_cons_zero, List.set_cons_succ]
      refine wpAnyH_ready (rs := [19]) (by kernel_rfl) (by simp) ?_
      refine AllReadyH.cons rfl (fun K hK => ?_) AllReadyH.nil
      go_simp
      have hx4 := hx.below hHeld.2.1
      refine (greatest_any _ _ _ _ _ hx4).mono ?_
      rintro e Wh ⟨rfl, hbh⟩
      try go_wp2_with fail
      refine hK.out _ _ ⟨hHeld.1.kept hbh, bt hHeld.2.1 hbh, bt hHeld.2.2 hbh⟩ (fun hHeld => ?_)
      clear hK K
      try simp only [Act.put, List.getElem_toArray, List.getElem_cons_succ, List.getElem_cons_zero, List.setIfInBounds_toArray, List.set_cons_zero, List.set_cons_succ]
      refine wpAnyH_take (i := 20) (v := ?_) rfl (by kernel_rfl) (by kernel_rfl) (by kernel_rfl) (fun _ _ _ h => h) (Or.inl ⟨by rfl, ?_⟩) hHeld ?_
      rotate_left
      · intro w' hSw; try dsimp only at hSw
        go_simp; try (with_reducible rfl)
      try simp only [Act.put, List.getElem_toArray, List.getElem_cons_succ, List.getElem_cons_zero, List.setIfInBounds_toArray, List.set_cons_zero, List.set_cons_succ]
      refine wpAnyH_take (i := 21) (v := ?_) rfl (by kernel_rfl) (by kernel_rfl) (by kernel_rfl) (fun _ _ _ h => h) (Or.inl ⟨by rfl, ?_⟩) hHeld ?_
      rotate_left
      · intro w' hSw; try dsimp only at hSw
        go_simp; try (with_reducible rfl)
      try simp only [Act.put, List.getElem_toArray, List.getElem_cons_succ, List.getElem_cons_zero, List.setIfInBounds_toArray, List.set_cons_zero, List.set_cons_succ]
      refine wpAnyH_take (i := 22) (v := ?_) rfl (by kernel_rfl) (by kernel_rfl) (by kernel_rfl) (fun _ _ _ h => h) (Or.inl ⟨by rfl, ?_⟩) hHeld ?_
      rotate_left
      · intro w' hSw; try dsimp only at hSw
        go_simp; try (with_reducible rfl)
      try simp only [Act.put, List.getElem_toArray, List.getElem_cons_succ, List.getElem_cons_zero, List.setIfInBounds_toArray, List.set_cons_zero, List.set_cons_succ]
      refine wpAnyH_done (by kernel_rfl) ?_ _
      refine NoPanic.normal ?_
      go_wp2_with fail
      go_ret
      exact ⟨rfl, hHeld.2.1⟩
    · have hnI : (0 : Int) < (n : Int) := by omega
      have hwr : IntKind.i64.wrap (tu : Int) = (tu : Int) := by rw [IntKind.wrap_i64]; omega
      obtain ⟨k, Hk⟩ : ∃ k, k = tu % n := ⟨_, rfl⟩
      have hkn : k < n := by rw [Hk]; exact Nat.mod_lt _ (by omega)
      have htm : (tu : Int).tmod (n : Int) = (k : Int) := by rw [Hk]; rfl
      clear Hk
      have hki : (k : Int) < (n : Int) := by omega
      have hnz : ¬ (n : Int) = 0 := by omega
      go_upto_region 8 with (first | (go_at_call 9; refine (live_any _).mono ?_; rintro e w1 ⟨rfl, hbn⟩; replace b2 := b2.kept hbn; replace hb0 := bt hb0 hbn; clear hbn; have c0 := b2.cell' (i := 0) rfl; have c1 := b2.cell' (i := 1) rfl; have c2 := b2.cell' (i := 2) rfl; have c3 := b2.cell' (i := 3) rfl; have c4 := b2.cell' (i := 4) rfl) | (go_at_call 13; refine (few_any _ _ _ _ _ _ _ _ _ _).mono ?_; rintro e w1 ⟨rfl, hbn⟩; replace b2 := b2.kept hbn; replace hb0 := bt hb0 hbn; clear hbn; have c0 := b2.cell' (i := 0) rfl; have c1 := b2.cell' (i := 1) rfl; have c2 := b2.cell' (i := 2) rfl; have c3 := b2.cell' (i := 3) rfl; have c4 := b2.cell' (i := 4) rfl) | (go_at_call 29; refine (cloneF_any _ _ _ _ _ (hx.below hb0) hn6).mono ?_; rintro e wc ⟨pc, cc, rfl, hown, hbn⟩; have hlt0 := b2.lt; have hbs := hbn.size; have hbw := hb0.size; replace b2 := b2.kept hbn; replace hb0 := bt hb0 hbn; clear hbn; have c0 := b2.cell' (i := 0) rfl; have c1 := b2.cell' (i := 1) rfl; have c2 := b2.cell' (i := 2) rfl; have c3 := b2.cell' (i := 3) rfl; have c4 := b2.cell' (i := 4) rfl))
      obtain ⟨gc, rfl, hgB, hnc, hcm, -⟩ := rowF_of_owns hown (by omega)
      have hsb := sliceF_back gc 0 n cc k hkn hnc
      have hsf := sliceF_front (some ⟨gc, 0, none⟩) n cc k (by omega) hnc
      rw [Nat.zero_add] at hsb
      clear c0 c1 c2 c3 c4
      refine wp_region_noPanic ?_
      refine wp_region_held_drew (S := fun W => Blk W w.heap.size 39 [.int .i64 P, .int .i64 Lg, .int .i64 K, .slice p n c, .slice q m d] ∧ Below w.heap.size w W) (by kernel_rfl) ⟨b2.drew, hb0.drew⟩ (fun hHeld => ?_)
      refine wpAnyH_take (i := 0) (v := ?_) rfl (by kernel_rfl) (by kernel_rfl) (by kernel_rfl) (fun _ _ _ h => h) (Or.inl ⟨by rfl, ?_⟩) hHeld ?_
      rotate_left
      · intro w' hSw; try dsimp only at hSw
        go_simp; try (with_reducible rfl)
      try simp only [Act.put, List.getElem_toArray, List.getElem_cons_succ, List.getElem_cons_zero, List.setIfInBounds_toArray, List.set_cons_zero, List.set_cons_succ]
      refine wpAnyH_take (i := 1) (v := ?_) rfl (by kernel_rfl) (by kernel_rfl) (by kernel_rfl) (fun _ _ _ h => h) (Or.inl ⟨by rfl, ?_⟩) hHeld ?_
      rotate_left
      · intro w' hSw; try dsimp only at hSw
        go_simp; try (with_reducible rfl)
      try simp only [Act.put, List.getElem_toArray, List.getElem_cons_succ, List.getElem_cons_zero, List.setIfInBounds_toArray, List.set_cons_zero, List.set_cons_succ]
      refine wpAnyH_take (i := 2) (v := ?_) rfl (by kernel_rfl) (by kernel_rfl) (by kernel_rfl) (fun _ _ _ h => h) (Or.inl ⟨by rfl, ?_⟩) hHeld ?_
      rotate_left
      · intro w' hSw; try dsimp only at hSw
        go_simp; try (with_reducible rfl)
      try simp only [Act.put, List.getElem_toArray, List.getElem_cons_succ, List.getElem_cons_zero, List.setIfInBounds_toArray, List.set_cons_zero, List.set_cons_succ]
      refine wpAnyH_take (i := 3) (v := ?_) rfl (by kernel_rfl) (by kernel_rfl) (by kernel_rfl) (fun _ _ _ h => h) (Or.inl ⟨by rfl, ?_⟩) hHeld ?_
      rotate_left
      · intro w' hSw; try dsimp only at hSw
        go_simp; try (with_reducible rfl)
      try simp only [Act.put, List.getElem_toArray, List.getElem_cons_succ, List.getElem_cons_zero, List.setIfInBounds_toArray, List.set_cons_zero, List.set_cons_succ]
      refine wpAnyH_take (i := 4) (v := ?_) rfl (by kernel_rfl) (by kernel_rfl) (by kernel_rfl) (fun _ _ _ h => h) (Or.inl ⟨by rfl, ?_⟩) hHeld ?_
      rotate_left
      · intro w' hSw; try dsimp only at hSw
        go_simp; try (with_reducible rfl)
      try simp only [Act.put, List.getElem_toArray, List.getElem_cons_succ, List.getElem_cons_zero, List.setIfInBounds_toArray, List.set_cons_zero, List.set_cons_succ]
      refine wpAnyH_take (i := 5) (v := ?_) rfl (by kernel_rfl) (by kernel_rfl) (by kernel_rfl) (fun _ _ _ h => h) (Or.inl ⟨by rfl, ?_⟩) hHeld ?_
      rotate_left
      · intro w' hSw; try dsimp only at hSw
        go_simp; try (with_reducible rfl)
      try simp only [Act.put, List.getElem_toArray, List.getElem_cons_succ, List.getElem_cons_zero, List.setIfInBounds_toArray, List.set_cons_zero, List.set_cons_succ]
      refine wpAnyH_ready (rs := [6]) (by kernel_rfl) (by simp) ?_
      refine AllReadyH.cons rfl (fun K hK => ?_) AllReadyH.nil
      rw [if_pos (by rfl)]
      refine wp_append_rot (.tmp 25) (.tmp 28) rfl w1.heap.size gc n cc k xs _ rfl rfl (owns_below hown (Below.refl _ _).drew) hkn (by omega) hbs ?_
      intro g' o' c' WA hR hnc' hcm' hgB' hba
      refine hK.out _ _ ⟨hHeld.1.below hba hlt0, hHeld.2.trans (hba.mono (by omega))⟩ (fun hHeld => ?_)
      clear hK K
      try simp only [Act.put, List.getElem_toArray, List.getElem_cons_succ, List.getElem_cons_zero, List.setIfInBounds_toArray, List.set_cons_zero, List.set_cons_succ]
      refine wpAnyH_take (i := 7) (v := ?_) rfl (by kernel_rfl) (by kernel_rfl) (by kernel_rfl) (fun _ _ _ h => h) (Or.inl ⟨by rfl, ?_⟩) hHeld ?_
      rotate_left
      · intro w' hSw; try dsimp only at hSw
        go_simp; try (with_reducible rfl)
      try simp only [Act.put, List.getElem_toArray, List.getElem_cons_succ, List.getElem_cons_zero, List.setIfInBounds_toArray, List.set_cons_zero, List.set_cons_succ]
      refine wpAnyH_done (by kernel_rfl) ?_ _
      refine NoPanic.normal ?_
      obtain ⟨d2, dB⟩ := hHeld
      clear b2 hb0 hown hba hsb hsf
      have hlen : (xs.drop k ++ xs.take k).length = n := by have := hx.len; simp; omega
      have HN : Hid (newR P Lg (xs.drop k ++ xs.take k).reverse = newR P Lg xs) := (newR_order P Lg mem_rot).symm
      have HG : Hid (greatL (xs.drop k ++ xs.take k).reverse = greatL xs) := (greatL_order _ _ mem_rot).symm
      have HLN : Hid ((xs.drop k ++ xs.take k).reverse.length = n) := by show _ = _; rw [List.length_reverse]; exact hlen
      have HR : Hid (RowF WA g' o' (xs.drop k ++ xs.take k)) := hR
      have HLR : Hid ((xs.drop k ++ xs.take k).length = n) := hlen
      clear hR hlen
      go_upto_region 10 with (go_at_call 30; refine (reverseF_any w1.heap.size g' o' n c' _ _ HR.out HLR.out hgB' hn6).mono ?_; rintro e W8 ⟨rfl, hR8, hb8⟩)
      have hIr := hR8.inF HLN.out hnc' hcm' (by omega)
      have b2 := d2.below hb8 hlt0
      have hb0 := dB.trans (hb8.mono (by omega))
      clear d2 dB HR hR8 hb8
      refine wp_region_noPanic ?_
      refine wp_region_held_drew (S := fun W => Blk W w.heap.size 39 [.int .i64 P, .int .i64 Lg, .int .i64 K, .slice p n c, .slice q m d] ∧ Below w.heap.size w W ∧ Below W8.heap.size W8 W) (by kernel_rfl) ⟨b2.drew, hb0.drew, (Below.refl _ _).drew⟩ (fun hHeld => ?_)
      refine wpAnyH_take (i := 0) (v := ?_) rfl (by kernel_rfl) (by kernel_rfl) (by kernel_rfl) (fun _ _ _ h => h) (Or.inl ⟨by rfl, ?_⟩) hHeld ?_
      rotate_left
      · intro w' hSw; try dsimp only at hSw
        go_simp; try (with_reducible rfl)
      try simp only [Act.put, List.getElem_toArray, List.getElem_cons_succ, List.getElem_cons_zero, List.setIfInBounds_toArray, List.set_cons_zero, List.set_cons_succ]
      refine wpAnyH_take (i := 1) (v := ?_) rfl (by kernel_rfl) (by kernel_rfl) (by kernel_rfl) (fun _ _ _ h => h) (Or.inl ⟨by rfl, ?_⟩) hHeld ?_
      rotate_left
      · intro w' hSw; try dsimp only at hSw
        obtain ⟨g2, _, _⟩ := hSw
        have c0 := g2.cell' (i := 0) rfl; have c1 := g2.cell' (i := 1) rfl; have c3 := g2.cell' (i := 3) rfl
        go_simp; try (with_reducible rfl)
      try simp only [Act.put, List.getElem_toArray, List.getElem_cons_succ, List.getElem_cons_zero, List.setIfInBounds_toArray, List.set_cons_zero, List.set_cons_succ]
      refine wpAnyH_take (i := 2) (v := ?_) rfl (by kernel_rfl) (by kernel_rfl) (by kernel_rfl) (fun _ _ _ h => h) (Or.inl ⟨by rfl, ?_⟩) hHeld ?_
      rotate_left
      · intro w' hSw; try dsimp only at hSw
        go_simp; try (with_reducible rfl)
      try simp only [Act.put, List.getElem_toArray, List.getElem_cons_succ, List.getElem_cons_zero, List.setIfInBounds_toArray, List.set_cons_zero, List.set_cons_succ]
      refine wpAnyH_take (i := 3) (v := ?_) rfl (by kernel_rfl) (by kernel_rfl) (by kernel_rfl) (fun _ _ _ h => h) (Or.inl ⟨by rfl, ?_⟩) hHeld ?_
      rotate_left
      · intro w' hSw; try dsimp only at hSw
        obtain ⟨g2, _, _⟩ := hSw
        have c0 := g2.cell' (i := 0) rfl; have c1 := g2.cell' (i := 1) rfl; have c3 := g2.cell' (i := 3) rfl
        go_simp; try (with_reducible rfl)
      try simp only [Act.put, List.getElem_toArray, List.getElem_cons_succ, List.getElem_cons_zero, List.setIfInBounds_toArray, List.set_cons_zero, List.set_cons_succ]
      refine wpAnyH_take (i := 4) (v := ?_) rfl (by kernel_rfl) (by kernel_rfl) (by kernel_rfl) (fun _ _ _ h => h) (Or.inl ⟨by rfl, ?_⟩) hHeld ?_
      rotate_left
      · intro w' hSw; try dsimp only at hSw
        go_simp; try (with_reducible rfl)
      try simp only [Act.put, List.getElem_toArray, List.getElem_cons_succ, List.getElem_cons_zero, List.setIfInBounds_toArray, List.set_cons_zero, List.set_cons_succ]
      refine wpAnyH_take (i := 6) (v := ?_) rfl (by kernel_rfl) (by kernel_rfl) (by kernel_rfl) (fun _ _ _ h => h) (Or.inl ⟨by rfl, ?_⟩) hHeld ?_
      rotate_left
      · intro w' hSw; try dsimp only at hSw
        go_simp; try (with_reducible rfl)
      try simp only [Act.put, List.getElem_toArray, List.getElem_cons_succ, List.getElem_cons_zero, List.setIfInBounds_toArray, List.set_cons_zero, List.set_cons_succ]
      refine wpAnyH_take (i := 7) (v := ?_) rfl (by kernel_rfl) (by kernel_rfl) (by kernel_rfl) (fun _ _ _ h => h) (Or.inl ⟨by rfl, ?_⟩) hHeld ?_
      rotate_left
      · intro w' hSw; try dsimp only at hSw
        obtain ⟨g2, _, _⟩ := hSw
        have c0 := g2.cell' (i := 0) rfl; have c1 := g2.cell' (i := 1) rfl; have c3 := g2.cell' (i := 3) rfl
        go_simp; try (with_reducible rfl)
      try simp only [Act.put, List.getElem_toArray, List.getElem_cons_succ, List.getElem_cons_zero, List.setIfInBounds_toArray, List.set_cons_zero, List.set_cons_succ]
      refine wpAnyH_take (i := 8) (v := ?_) rfl (by kernel_rfl) (by kernel_rfl) (by kernel_rfl) (fun _ _ _ h => h) (Or.inl ⟨by rfl, ?_⟩) hHeld ?_
      rotate_left
      · intro w' hSw; try dsimp only at hSw
        go_simp; try (with_reducible rfl)
      try simp only [Act.put, List.getElem_toArray, List.getElem_cons_succ, List.getElem_cons_zero, List.setIfInBounds_toArray, List.set_cons_zero, List.set_cons_succ]
      refine wpAnyH_take (i := 9) (v := ?_) rfl (by kernel_rfl) (by kernel_rfl) (by kernel_rfl) (fun _ _ _ h => h) (Or.inl ⟨by rfl, ?_⟩) hHeld ?_
      rotate_left
      · intro w' hSw; try dsimp only at hSw
        obtain ⟨g2, _, _⟩ := hSw
        have c0 := g2.cell' (i := 0) rfl; have c1 := g2.cell' (i := 1) rfl; have c3 := g2.cell' (i := 3) rfl
        go_simp; try (with_reducible rfl)
      try simp only [Act.put, List.getElem_toArray, List.getElem_cons_succ, List.getElem_cons_zero, List.setIfInBounds_toArray, List.set_cons_zero, List.set_cons_succ]
      refine wpAnyH_take (i := 10) (v := ?_) rfl (by kernel_rfl) (by kernel_rfl) (by kernel_rfl) (fun _ _ _ h => h) (Or.inl ⟨by rfl, ?_⟩) hHeld ?_
      rotate_left
      · intro w' hSw; try dsimp only at hSw
        go_simp; try (with_reducible rfl)
      try simp only [Act.put, List.getElem_toArray, List.getElem_cons_succ, List.getElem_cons_zero, List.setIfInBounds_toArray, List.set_cons_zero, List.set_cons_succ]
      refine wpAnyH_take (i := 11) (v := ?_) rfl (by kernel_rfl) (by kernel_rfl) (by kernel_rfl) (fun _ _ _ h => h) (Or.inl ⟨by rfl, ?_⟩) hHeld ?_
      rotate_left
      · intro w' hSw; try dsimp only at hSw
        obtain ⟨g2, _, _⟩ := hSw
        have c0 := g2.cell' (i := 0) rfl; have c1 := g2.cell' (i := 1) rfl; have c3 := g2.cell' (i := 3) rfl
        go_simp; try (with_reducible rfl)
      try simp only [Act.put, List.getElem_toArray, List.getElem_cons_succ, List.getElem_cons_zero, List.setIfInBounds_toArray, List.set_cons_zero, List.set_cons_succ]
      refine wpAnyH_ready (rs := [5]) (by kernel_rfl) (by simp) ?_
      refine AllReadyH.cons rfl (fun K hK => ?_) AllReadyH.nil
      go_simp
      have hI1 := hIr.below hHeld.2.2
      refine (newest_all P Lg _ _ _ _ _ hI1).mono ?_
      rintro e Wn ⟨pn, mn, rfl, hn1, hbn⟩
      try go_wp2_with fail
      refine hK.out _ _ ⟨hHeld.1.kept hbn, bt hHeld.2.1 hbn, bt hHeld.2.2 hbn⟩ (fun hHeld => ?_)
      clear hK K
      try simp only [Act.put, List.getElem_toArray, List.getElem_cons_succ, List.getElem_cons_zero, List.setIfInBounds_toArray, List.set_cons_zero, List.set_cons_succ]
      refine wpAnyH_ready (rs := [12]) (by kernel_rfl) (by simp) ?_
      refine AllReadyH.cons rfl (fun K hK => ?_) AllReadyH.nil
      go_simp
      have hx2 := hx.below hHeld.2.1
      refine (newest_all P Lg _ _ _ _ _ hx2).mono ?_
      rintro e Wm ⟨pm, mm, rfl, hm1, hbm⟩
      try go_wp2_with fail
      refine hK.out _ _ ⟨hHeld.1.kept hbm, bt hHeld.2.1 hbm, bt hHeld.2.2 hbm⟩ (fun hHeld => ?_)
      clear hK K
      try simp only [Act.put, List.getElem_toArray, List.getElem_cons_succ, List.getElem_cons_zero, List.setIfInBounds_toArray, List.set_cons_zero, List.set_cons_succ]
      rw [HN.out] at hn1
      obtain rfl : mn = mm := hn1.len.symm.trans hm1.len
      replace hn1 := hn1.below hbm
      refine wpAnyH_ready (rs := [13]) (by kernel_rfl) (by simp) ?_
      refine AllReadyH.cons rfl (fun K hK => ?_) AllReadyH.nil
      go_simp
      refine (samePlaces_yes pn pm mn mn mn _ _ hn1 hm1).mono ?_
      rintro e Ws ⟨rfl, hbs⟩
      try go_wp2_with fail
      refine hK.out _ _ ⟨hHeld.1.kept hbs, bt hHeld.2.1 hbs, bt hHeld.2.2 hbs⟩ (fun hHeld => ?_)
      clear hK K
      try simp only [Act.put, List.getElem_toArray, List.getElem_cons_succ, List.getElem_cons_zero, List.setIfInBounds_toArray, List.set_cons_zero, List.set_cons_succ]
      refine wpAnyH_take (i := 14) (v := ?_) rfl (by kernel_rfl) (by kernel_rfl) (by kernel_rfl) (fun _ _ _ h => h) (Or.inl ⟨by rfl, ?_⟩) hHeld ?_
      rotate_left
      · intro w' hSw; try dsimp only at hSw
        go_simp; try (with_reducible rfl)
      try simp only [Act.put, List.getElem_toArray, List.getElem_cons_succ, List.getElem_cons_zero, List.setIfInBounds_toArray, List.set_cons_zero, List.set_cons_succ]
      refine wpAnyH_take (i := 15) (v := ?_) rfl (by kernel_rfl) (by kernel_rfl) (by kernel_rfl) (fun _ _ _ h => h) (Or.inl ⟨by rfl, ?_⟩) hHeld ?_
      rotate_left
      · intro w' hSw; try dsimp only at hSw
        go_simp; try (with_reducible rfl)
      try simp only [Act.put, List.getElem_toArray, List.getElem_cons_succ, List.getElem_cons_zero, List.setIfInBounds_toArray, List.set_cons_zero, List.set_cons_succ]
      refine wpAnyH_take (i := 17) (v := ?_) rfl (by kernel_rfl) (by kernel_rfl) (by kernel_rfl) (fun _ _ _ h => h) (Or.inl ⟨by rfl, ?_⟩) hHeld ?_
      rotate_left
      · intro w' hSw; try dsimp only at hSw
        go_simp; try (with_reducible rfl)
      try simp only [Act.put, List.getElem_toArray, List.getElem_cons_succ, List.getElem_cons_zero, List.setIfInBounds_toArray, List.set_cons_zero, List.set_cons_succ]
      refine wpAnyH_take (i := 18) (v := ?_) rfl (by kernel_rfl) (by kernel_rfl) (by kernel_rfl) (fun _ _ _ h => h) (Or.inl ⟨by rfl, ?_⟩) hHeld ?_
      rotate_left
      · intro w' hSw; try dsimp only at hSw
        obtain ⟨g2, _, _⟩ := hSw
        have c0 := g2.cell' (i := 0) rfl; have c1 := g2.cell' (i := 1) rfl; have c3 := g2.cell' (i := 3) rfl
        go_simp; try (with_reducible rfl)
      try simp only [Act.put, List.getElem_toArray, List.getElem_cons_succ, List.getElem_cons_zero, List.setIfInBounds_toArray, List.set_cons_zero, List.set_cons_succ]
      refine wpAnyH_ready (rs := [16]) (by kernel_rfl) (by simp) ?_
      refine AllReadyH.cons rfl (fun K hK => ?_) AllReadyH.nil
      go_simp
      have hI3 := hIr.below hHeld.2.2
      refine (greatest_any _ _ _ _ _ hI3).mono ?_
      rw [HG.out]
      rintro e Wg ⟨rfl, hbg⟩
      try go_wp2_with fail
      refine hK.out _ _ ⟨hHeld.1.kept hbg, bt hHeld.2.1 hbg, bt hHeld.2.2 hbg⟩ (fun hHeld => ?_)
      clear hK K
      try simp only [Act.put, List.getElem_toArray, List.getElem_cons_succ, List.getElem_cons_zero, List.setIfInBounds_toArray, List.set_cons_zero, List.set_cons_succ]
      refine wpAnyH_ready (rs := [19]) (by kernel_rfl) (by simp) ?_
      refine AllReadyH.cons rfl (fun K hK => ?_) AllReadyH.nil
      go_simp
      have hx4 := hx.below hHeld.2.1
      refine (greatest_any _ _ _ _ _ hx4).mono ?_
      rintro e Wh ⟨rfl, hbh⟩
      try go_wp2_with fail
      refine hK.out _ _ ⟨hHeld.1.kept hbh, bt hHeld.2.1 hbh, bt hHeld.2.2 hbh⟩ (fun hHeld => ?_)
      clear hK K
      try simp only [Act.put, List.getElem_toArray, List.getElem_cons_succ, List.getElem_cons_zero, List.setIfInBounds_toArray, List.set_cons_zero, List.set_cons_succ]
      refine wpAnyH_take (i := 20) (v := ?_) rfl (by kernel_rfl) (by kernel_rfl) (by kernel_rfl) (fun _ _ _ h => h) (Or.inl ⟨by rfl, ?_⟩) hHeld ?_
      rotate_left
      · intro w' hSw; try dsimp only at hSw
        go_simp; try (with_reducible rfl)
      try simp only [Act.put, List.getElem_toArray, List.getElem_cons_succ, List.getElem_cons_zero, List.setIfInBounds_toArray, List.set_cons_zero, List.set_cons_succ]
      refine wpAnyH_take (i := 21) (v := ?_) rfl (by kernel_rfl) (by kernel_rfl) (by kernel_rfl) (fun _ _ _ h => h) (Or.inl ⟨by rfl, ?_⟩) hHeld ?_
      rotate_left
      · intro w' hSw; try dsimp only at hSw
        go_simp; try (with_reducible rfl)
      try simp only [Act.put, List.getElem_toArray, List.getElem_cons_succ, List.getElem_cons_zero, List.setIfInBounds_toArray, List.set_cons_zero, List.set_cons_succ]
      refine wpAnyH_take (i := 22) (v := ?_) rfl (by kernel_rfl) (by kernel_rfl) (by kernel_rfl) (fun _ _ _ h => h) (Or.inl ⟨by rfl, ?_⟩) hHeld ?_
      rotate_left
      · intro w' hSw; try dsimp only at hSw
        go_simp; try (with_reducible rfl)
      try simp only [Act.put, List.getElem_toArray, List.getElem_cons_succ, List.getElem_cons_zero, List.setIfInBounds_toArray, List.set_cons_zero, List.set_cons_succ]
      refine wpAnyH_done (by kernel_rfl) ?_ _
      refine NoPanic.normal ?_
      go_wp2_with fail
      go_ret
      exact ⟨rfl, hHeld.2.1⟩
end Go.Proofs.Ytfgelncfmopibaa
