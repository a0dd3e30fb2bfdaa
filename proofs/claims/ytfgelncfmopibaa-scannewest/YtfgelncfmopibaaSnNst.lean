/-
  P7.2, ScanNewest: where the newest copy of each page stands, and the greatest Stamp, are what the document says.
-/
import Derived.Test.YtfgelncfmopibaaSnRNst
namespace Go.Proofs.Ytfgelncfmopibaa
open Go.RowKit
theorem r07newest_all (P Lg : Int) (p : Option Addr) (n c : Nat) (xs : List Fd) (w : World) (hx : InF w p n c xs) :
    Calls Try.prog 16 #[.int .i64 P, .int .i64 Lg, .slice p n c] w fun e w' => ∃ p' m c', e = .returned (.slice p' m c') ∧ InZ w' p' m c' (newR P Lg xs) ∧ Below w.heap.size w w' := by
  cases hok : okSz P Lg 1 with
  | false =>
    refine (r07newest_no P Lg p n c w hok).mono ?_
    rintro e w' ⟨rfl, hb⟩
    refine ⟨none, 0, 0, rfl, ?_, hb⟩
    unfold newR
    rw [hok]
    exact InZ.empty w'
  | true =>
    obtain ⟨r1, r2, _⟩ := okSz_iff.1 hok
    have hM := prod_bd r2 r1
    obtain ⟨L, rfl⟩ : ∃ L : Nat, Lg = (L : Int) := ⟨Lg.toNat, by omega⟩
    obtain ⟨M, hm⟩ : ∃ M : Nat, (L : Int) * P = (M : Int) := ⟨((L : Int) * P).toNat, by omega⟩
    refine (r07newest_ok P L M p n c xs w hok hm hx).mono ?_
    rintro e w' ⟨q, cq, rfl, hown, hb⟩
    obtain ⟨p', c', hv, h1⟩ := in_of_ownsZ hown (by omega)
    cases hv
    refine ⟨_, M, _, rfl, ?_, hb⟩
    unfold newR
    rw [hok, hm, Int.toNat_natCast]
    exact h1
set_option linter.unusedSimpArgs false in
set_option maxRecDepth 100000 in
set_option maxHeartbeats 8000000 in
theorem scanNewest_true (P Lg K : Int) (p q : Option Addr) (n c m d : Nat) (xs : List Fd) (w : World) (hx : InF w p n c xs) :
    Calls Try.prog 4 #[.agg #[.int .i64 P, .int .i64 Lg, .int .i64 K, .slice p n c, .slice q m d]] w fun e w' => e = .returned (.bool true) ∧ Below w.heap.size w w' := by
  have hb0 := below_alloc w (.cells #[.int .i64 P, .int .i64 Lg, .int .i64 K, .slice p n c, .slice q m d] 39)
  have b2 := Blk.new' w 39 #[.int .i64 P, .int .i64 Lg, .int .i64 K, .slice p n c, .slice q m d]
  cases hf : fewB n m Lg with
  | false =>
    go_enter Try.func4, Try.ntmps4
    go_upto_region 1 with (fail)
    generalize w.alloc (.cells #[.int .i64 P, .int .i64 Lg, .int .i64 K, .slice p n c, .slice q m d] 39) = W0 at *
    go_wp2_with (first | (go_at_call 9; refine (live_any _).mono ?_; rintro e w1 ⟨rfl, hbn⟩; replace b2 := b2.kept hbn; replace hb0 := bt hb0 hbn; clear hbn; have c0 := b2.cell' (i := 0) rfl; have c1 := b2.cell' (i := 1) rfl; have c2 := b2.cell' (i := 2) rfl; have c3 := b2.cell' (i := 3) rfl; have c4 := b2.cell' (i := 4) rfl) | (go_at_call 13; refine (few_any _ _ _ _ _ _ _ _ _ _).mono ?_; rintro e w1 ⟨rfl, hbn⟩; replace b2 := b2.kept hbn; replace hb0 := bt hb0 hbn; clear hbn; have c0 := b2.cell' (i := 0) rfl; have c1 := b2.cell' (i := 1) rfl; have c2 := b2.cell' (i := 2) rfl; have c3 := b2.cell' (i := 3) rfl; have c4 := b2.cell' (i := 4) rfl))
    go_ret
    exact ⟨rfl, hb0⟩
  | true =>
    go_enter Try.func4, Try.ntmps4
    go_upto_region 1 with (fail)
    generalize w.alloc (.cells #[.int .i64 P, .int .i64 Lg, .int .i64 K, .slice p n c, .slice q m d] 39) = W0 at *
    go_upto_region 5 with (first | (go_at_call 9; refine (live_any _).mono ?_; rintro e w1 ⟨rfl, hbn⟩; replace b2 := b2.kept hbn; replace hb0 := bt hb0 hbn; clear hbn; have c0 := b2.cell' (i := 0) rfl; have c1 := b2.cell' (i := 1) rfl; have c2 := b2.cell' (i := 2) rfl; have c3 := b2.cell' (i := 3) rfl; have c4 := b2.cell' (i := 4) rfl) | (go_at_call 13; refine (few_any _ _ _ _ _ _ _ _ _ _).mono ?_; rintro e w1 ⟨rfl, hbn⟩; replace b2 := b2.kept hbn; replace hb0 := bt hb0 hbn; clear hbn; have c0 := b2.cell' (i := 0) rfl; have c1 := b2.cell' (i := 1) rfl; have c2 := b2.cell' (i := 2) rfl; have c3 := b2.cell' (i := 3) rfl; have c4 := b2.cell' (i := 4) rfl))
    clear c0 c1 c2 c3 c4
    refine wp_region_noPanic ?_
    refine wp_region_held_drew (S := fun W => Blk W w.heap.size 39 [.int .i64 P, .int .i64 Lg, .int .i64 K, .slice p n c, .slice q m d] ∧ Below w.heap.size w W) (by kernel_rfl) ⟨b2.drew, hb0.drew⟩ (fun hHeld => ?_)
    refine wpAnyH_take (i := 0) (v := ?_) rfl (by kernel_rfl) (by kernel_rfl) (by kernel_rfl) (fun _ _ _ h => h) (Or.inl ⟨by rfl, ?_⟩) hHeld ?_
    rotate_left
    · intro w' hSw; try dsimp only at hSw
      go_simp; try (with_reducible rfl)
    try simp only [Act.put, List.getElem_toArray, List.getElem_cons_succ, List.getElem_cons_zero, List.setIfInBounds_toArray, List.set_cons_zero, List.set_cons_succ]
    refine wpAnyH_take (i := 1) (v := ?_) rfl (by kernel_rfl) (by kernel_rfl) (by kernel_rfl) (fun _ _ _ h => h) (Or.inl ⟨by rfl, ?_⟩) hHeld ?_
    rotate_left
    · intro w' hSw; try dsimp only at hSw
      obtain ⟨g2, _⟩ := hSw
      have c0 := g2.cell' (i := 0) rfl; have c1 := g2.cell' (i := 1) rfl; have c3 := g2.cell' (i := 3) rfl
      go_simp; try (with_reducible rfl)
    try simp only [Act.put, List.getElem_toArray, List.getElem_cons_succ, List.getElem_cons_zero, List.setIfInBounds_toArray, List.set_cons_zero, List.set_cons_succ]
    refine wpAnyH_take (i := 2) (v := ?_) rfl (by kernel_rfl) (by kernel_rfl) (by kernel_rfl) (fun _ _ _ h => h) (Or.inl ⟨by rfl, ?_⟩) hHeld ?_
    rotate_left
    · intro w' hSw; try dsimp only at hSw
      go_simp; try (with_reducible rfl)
    try simp only [Act.put, List.getElem_toArray, List.getElem_cons_succ, List.getElem_cons_zero, List.setIfInBounds_toArray, List.set_cons_zero, List.set_cons_succ]
    refine wpAnyH_take (i := 3) (v := ?_) rfl (by kernel_rfl) (by kernel_rfl) (by kernel_rfl) (fun _ _ _ h => h) (Or.inl ⟨by rfl, ?_⟩) hHeld ?_
    rotate_left
    · intro w' hSw; try dsimp only at hSw
      obtain ⟨g2, _⟩ := hSw
      have c0 := g2.cell' (i := 0) rfl; have c1 := g2.cell' (i := 1) rfl; have c3 := g2.cell' (i := 3) rfl
      go_simp; try (with_reducible rfl)
    try simp only [Act.put, List.getElem_toArray, List.getElem_cons_succ, List.getElem_cons_zero, List.setIfInBounds_toArray, List.set_cons_zero, List.set_cons_succ]
    refine wpAnyH_take (i := 4) (v := ?_) rfl (by kernel_rfl) (by kernel_rfl) (by kernel_rfl) (fun _ _ _ h => h) (Or.inl ⟨by rfl, ?_⟩) hHeld ?_
    rotate_left
    · intro w' hSw; try dsimp only at hSw
      go_simp; try (with_reducible rfl)
    try simp only [Act.put, List.getElem_toArray, List.getElem_cons_succ, List.getElem_cons_zero, List.setIfInBounds_toArray, List.set_cons_zero, List.set_cons_succ]
    refine wpAnyH_take (i := 5) (v := ?_) rfl (by kernel_rfl) (by kernel_rfl) (by kernel_rfl) (fun _ _ _ h => h) (Or.inl ⟨by rfl, ?_⟩) hHeld ?_
    rotate_left
    · intro w' hSw; try dsimp only at hSw
      obtain ⟨g2, _⟩ := hSw
      have c0 := g2.cell' (i := 0) rfl; have c1 := g2.cell' (i := 1) rfl; have c3 := g2.cell' (i := 3) rfl
      go_simp; try (with_reducible rfl)
    try simp only [Act.put, List.getElem_toArray, List.getElem_cons_succ, List.getElem_cons_zero, List.setIfInBounds_toArray, List.set_cons_zero, List.set_cons_succ]
    refine wpAnyH_take (i := 7) (v := ?_) rfl (by kernel_rfl) (by kernel_rfl) (by kernel_rfl) (fun _ _ _ h => h) (Or.inl ⟨by rfl, ?_⟩) hHeld ?_
    rotate_left
    · intro w' hSw; try dsimp only at hSw
      go_simp; try (with_reducible rfl)
    try simp only [Act.put, List.getElem_toArray, List.getElem_cons_succ, List.getElem_cons_zero, List.setIfInBounds_toArray, List.set_cons_zero, List.set_cons_succ]
    refine wpAnyH_take (i := 8) (v := ?_) rfl (by kernel_rfl) (by kernel_rfl) (by kernel_rfl) (fun _ _ _ h => h) (Or.inl ⟨by rfl, ?_⟩) hHeld ?_
    rotate_left
    · intro w' hSw; try dsimp only at hSw
      obtain ⟨g2, _⟩ := hSw
      have c0 := g2.cell' (i := 0) rfl; have c1 := g2.cell' (i := 1) rfl; have c3 := g2.cell' (i := 3) rfl
      go_simp; try (with_reducible rfl)
    try simp only [Act.put, List.getElem_toArray, List.getElem_cons_succ, List.getElem_cons_zero, List.setIfInBounds_toArray, List.set_cons_zero, List.set_cons_succ]
    refine wpAnyH_take (i := 9) (v := ?_) rfl (by kernel_rfl) (by kernel_rfl) (by kernel_rfl) (fun _ _ _ h => h) (Or.inl ⟨by rfl, ?_⟩) hHeld ?_
    rotate_left
    · intro w' hSw; try dsimp only at hSw
      go_simp; try (with_reducible rfl)
    try simp only [Act.put, List.getElem_toArray, List.getElem_cons_succ, List.getElem_cons_zero, List.setIfInBounds_toArray, List.set_cons_zero, List.set_cons_succ]
    refine wpAnyH_take (i := 10) (v := ?_) rfl (by kernel_rfl) (by kernel_rfl) (by kernel_rfl) (fun _ _ _ h => h) (Or.inl ⟨by rfl, ?_⟩) hHeld ?_
    rotate_left
    · intro w' hSw; try dsimp only at hSw
      obtain ⟨g2, _⟩ := hSw
      have c0 := g2.cell' (i := 0) rfl; have c1 := g2.cell' (i := 1) rfl; have c3 := g2.cell' (i := 3) rfl
      go_simp; try (with_reducible rfl)
    try simp only [Act.put, List.getElem_toArray, List.getElem_cons_succ, List.getElem_cons_zero, List.setIfInBounds_toArray, List.set_cons_zero, List.set_cons_succ]
    refine wpAnyH_take (i := 11) (v := ?_) rfl (by kernel_rfl) (by kernel_rfl) (by kernel_rfl) (fun _ _ _ h => h) (Or.inl ⟨by rfl, ?_⟩) hHeld ?_
    rotate_left
    · intro w' hSw; try dsimp only at hSw
      go_simp; try (with_reducible rfl)
    try simp only [Act.put, List.getElem_toArray, List.getElem_cons_succ, List.getElem_cons_zero, List.setIfInBounds_toArray, List.set_cons_zero, List.set_cons_succ]
    refine wpAnyH_take (i := 12) (v := ?_) rfl (by kernel_rfl) (by kernel_rfl) (by kernel_rfl) (fun _ _ _ h => h) (Or.inl ⟨by rfl, ?_⟩) hHeld ?_
    rotate_left
    · intro w' hSw; try dsimp only at hSw
      obtain ⟨g2, _⟩ := hSw
      have c0 := g2.cell' (i := 0) rfl; have c1 := g2.cell' (i := 1) rfl; have c3 := g2.cell' (i := 3) rfl
      go_simp; try (with_reducible rfl)
    try simp only [Act.put, List.getElem_toArray, List.getElem_cons_succ, List.getElem_cons_zero, List.setIfInBounds_toArray, List.set_cons_zero, List.set_cons_succ]
    refine wpAnyH_ready (rs := [6]) (by kernel_rfl) (by simp) ?_
    refine AllReadyH.cons rfl (fun K hK => ?_) AllReadyH.nil
    go_simp
    have hx1 := hx.below hHeld.2
    refine (newest_all P Lg _ _ _ _ _ hx1).mono ?_
    rintro e Wn ⟨pn, mn, rfl, hn1, hbn⟩
    try go_wp2_with fail
    refine hK.out _ _ ⟨hHeld.1.kept hbn, bt hHeld.2 hbn⟩ (fun hHeld => ?_)
    clear hK K
    try simp only [Act.put, List.getElem_toArray, List.getElem_cons_succ, List.getElem_cons_zero, List.setIfInBounds_toArray, List.set_cons_zero, List.set_cons_succ]
    refine wpAnyH_ready (rs := [13]) (by kernel_rfl) (by simp) ?_
    refine AllReadyH.cons rfl (fun K hK => ?_) AllReadyH.nil
    go_simp
    have hx2 := hx.below hHeld.2
    refine (r07newest_all P Lg _ _ _ _ _ hx2).mono ?_
    rintro e Wm ⟨pm, mm, cm, rfl, hm1, hbm⟩
    try go_wp2_with fail
    refine hK.out _ _ ⟨hHeld.1.kept hbm, bt hHeld.2 hbm⟩ (fun hHeld => ?_)
    clear hK K
    try simp only [Act.put, List.getElem_toArray, List.getElem_cons_succ, List.getElem_cons_zero, List.setIfInBounds_toArray, List.set_cons_zero, List.set_cons_succ]
    obtain rfl : mn = mm := hn1.len.symm.trans hm1.len
    replace hn1 := hn1.below hbm
    refine wpAnyH_ready (rs := [14]) (by kernel_rfl) (by simp) ?_
    refine AllReadyH.cons rfl (fun K hK => ?_) AllReadyH.nil
    go_simp
    refine (samePlaces_yes pn pm mn mn cm _ _ hn1 hm1).mono ?_
    rintro e Ws ⟨rfl, hbs⟩
    try go_wp2_with fail
    refine hK.out _ _ ⟨hHeld.1.kept hbs, bt hHeld.2 hbs⟩ (fun hHeld => ?_)
    clear hK K
    try simp only [Act.put, List.getElem_toArray, List.getElem_cons_succ, List.getElem_cons_zero, List.setIfInBounds_toArray, List.set_cons_zero, List.set_cons_succ]
    refine wpAnyH_take (i := 15) (v := ?_) rfl (by kernel_rfl) (by kernel_rfl) (by kernel_rfl) (fun _ _ _ h => h) (Or.inl ⟨by rfl, ?_⟩) hHeld ?_
    rotate_left
    · intro w' hSw; try dsimp only at hSw
      go_simp; try (with_reducible rfl)
    try simp only [Act.put, List.getElem_toArray, List.getElem_cons_succ, List.getElem_cons_zero, List.setIfInBounds_toArray, List.set_cons_zero, List.set_cons_succ]
    refine wpAnyH_take (i := 16) (v := ?_) rfl (by kernel_rfl) (by kernel_rfl) (by kernel_rfl) (fun _ _ _ h => h) (Or.inl ⟨by rfl, ?_⟩) hHeld ?_
    rotate_left
    · intro w' hSw; try dsimp only at hSw
      go_simp; try (with_reducible rfl)
    try simp only [Act.put, List.getElem_toArray, List.getElem_cons_succ, List.getElem_cons_zero, List.setIfInBounds_toArray, List.set_cons_zero, List.set_cons_succ]
    refine wpAnyH_take (i := 17) (v := ?_) rfl (by kernel_rfl) (by kernel_rfl) (by kernel_rfl) (fun _ _ _ h => h) (Or.inl ⟨by rfl, ?_⟩) hHeld ?_
    rotate_left
    · intro w' hSw; try dsimp only at hSw
      obtain ⟨g2, _⟩ := hSw
      have c0 := g2.cell' (i := 0) rfl; have c1 := g2.cell' (i := 1) rfl; have c3 := g2.cell' (i := 3) rfl
      go_simp; try (with_reducible rfl)
    try simp only [Act.put, List.getElem_toArray, List.getElem_cons_succ, List.getElem_cons_zero, List.setIfInBounds_toArray, List.set_cons_zero, List.set_cons_succ]
    refine wpAnyH_take (i := 19) (v := ?_) rfl (by kernel_rfl) (by kernel_rfl) (by kernel_rfl) (fun _ _ _ h => h) (Or.inl ⟨by rfl, ?_⟩) hHeld ?_
    rotate_left
    · intro w' hSw; try dsimp only at hSw
      go_simp; try (with_reducible rfl)
    try simp only [Act.put, List.getElem_toArray, List.getElem_cons_succ, List.getElem_cons_zero, List.setIfInBounds_toArray, List.set_cons_zero, List.set_cons_succ]
    refine wpAnyH_take (i := 20) (v := ?_) rfl (by kernel_rfl) (by kernel_rfl) (by kernel_rfl) (fun _ _ _ h => h) (Or.inl ⟨by rfl, ?_⟩) hHeld ?_
    rotate_left
    · intro w' hSw; try dsimp only at hSw
      obtain ⟨g2, _⟩ := hSw
      have c0 := g2.cell' (i := 0) rfl; have c1 := g2.cell' (i := 1) rfl; have c3 := g2.cell' (i := 3) rfl
      go_simp; try (with_reducible rfl)
    try simp only [Act.put, List.getElem_toArray, List.getElem_cons_succ, List.getElem_cons_zero, List.setIfInBounds_toArray, List.set_cons_zero, List.set_cons_succ]
    refine wpAnyH_ready (rs := [18]) (by kernel_rfl) (by simp) ?_
    refine AllReadyH.cons rfl (fun K hK => ?_) AllReadyH.nil
    go_simp
    have hx3 := hx.below hHeld.2
    refine (greatest_any _ _ _ _ _ hx3).mono ?_
    rintro e Wg ⟨rfl, hbg⟩
    try go_wp2_with fail
    refine hK.out _ _ ⟨hHeld.1.kept hbg, bt hHeld.2 hbg⟩ (fun hHeld => ?_)
    clear hK K
    try simp only [Act.put, List.getElem_toArray, List.getElem_cons_succ, List.getElem_cons_zero, List.setIfInBounds_toArray, List.set_cons_zero, List.set_cons_succ]
    refine wpAnyH_ready (rs := [21]) (by kernel_rfl) (by simp) ?_
    refine AllReadyH.cons rfl (fun K hK => ?_) AllReadyH.nil
    go_simp
    have hx4 := hx.below hHeld.2
    refine (r07great_any _ _ _ _ _ hx4).mono ?_
    rintro e Wh ⟨rfl, hbh⟩
    try go_wp2_with fail
    refine hK.out _ _ ⟨hHeld.1.kept hbh, bt hHeld.2 hbh⟩ (fun hHeld => ?_)
    clear hK K
    try simp only [Act.put, List.getElem_toArray, List.getElem_cons_succ, List.getElem_cons_zero, List.setIfInBounds_toArray, List.set_cons_zero, List.set_cons_succ]
    refine wpAnyH_take (i := 22) (v := ?_) rfl (by kernel_rfl) (by kernel_rfl) (by kernel_rfl) (fun _ _ _ h => h) (Or.inl ⟨by rfl, ?_⟩) hHeld ?_
    rotate_left
    · intro w' hSw; try dsimp only at hSw
      go_simp; try (with_reducible rfl)
    try simp only [Act.put, List.getElem_toArray, List.getElem_cons_succ, List.getElem_cons_zero, List.setIfInBounds_toArray, List.set_cons_zero, List.set_cons_succ]
    refine wpAnyH_take (i := 23) (v := ?_) rfl (by kernel_rfl) (by kernel_rfl) (by kernel_rfl) (fun _ _ _ h => h) (Or.inl ⟨by rfl, ?_⟩) hHeld ?_
    rotate_left
    · intro w' hSw; try dsimp only at hSw
      go_simp; try (with_reducible rfl)
    try simp only [Act.put, List.getElem_toArray, List.getElem_cons_succ, List.getElem_cons_zero, List.setIfInBounds_toArray, List.set_cons_zero, List.set_cons_succ]
    refine wpAnyH_take (i := 24) (v := ?_) rfl (by kernel_rfl) (by kernel_rfl) (by kernel_rfl) (fun _ _ _ h => h) (Or.inl ⟨by rfl, ?_⟩) hHeld ?_
    rotate_left
    · intro w' hSw; try dsimp only at hSw
      go_simp; try (with_reducible rfl)
    try simp only [Act.put, List.getElem_toArray, List.getElem_cons_succ, List.getElem_cons_zero, List.setIfInBounds_toArray, List.set_cons_zero, List.set_cons_succ]
    refine wpAnyH_done (by kernel_rfl) ?_ _
    refine NoPanic.normal ?_
    go_wp2_with fail
    go_ret
    exact ⟨rfl, hHeld.2⟩
end Go.Proofs.Ytfgelncfmopibaa
