/-
  What Take answers.
-/
import Derived.Test.YtigkfmdhmonjlaaPoReach
namespace Go.Proofs.Ytigkfmdhmonjlaa
open Go.RowKit
set_option linter.unusedSimpArgs false in
set_option maxHeartbeats 1000000 in
theorem take_any (p q : Option Addr) (n c m d : Nat) (R W : List Int) (b : Int) (role : Int) (w : World) (hR : InI w p n c R) (hW : InI w q m d W) :
    Calls Try.prog 17 #[.agg #[.slice p n c, .slice q m d], .int .i64 b, .int .i64 role] w (PoolRes w (takeS R W b role)) := by
  have hS := PS.start w (.slice p n c) (.slice q m d) (.slice none 0 0) (.slice none 0 0)
  by_cases hre : reachE R W b = 0
  · obtain ⟨hok, hnm, hnm', k, rfl, hk, hrk, hwk⟩ := reach_facts hR hW hre
    subst hnm'
    have HE : Hid (reachE R W (k : Int) = 0) := hre
    obtain ⟨bp, op, rfl, hltp, hcp⟩ := hR.at' (by omega)
    obtain ⟨bq, oq, rfl, hltq, hcq⟩ := hW.at' (by omega)
    have ck := hcp k hk
    have cw := hcq k hk
    have hk1 : (k : Int) < (n : Int) := by omega
    have hw0 := hwk.1
    have hw1 := hwk.2
    have hwr : IntKind.i64.wrap (eI W k + 1) = eI W k + 1 := by rw [IntKind.wrap_i64]; omega
    clear hcp hcq
    cases hu : okUse role with
    | true =>
      by_cases h1 : eI R k = 1
      · have HS : Hid (takeS R W (k : Int) role = (R.set k role, W.set k (eI W k), 0)) := by
          show _ = _
          unfold takeS; rw [if_pos HE.out, Int.toNat_natCast, hu, decide_eq_true h1, set_same]; rfl
        rw [h1] at ck
        clear h1
        go_enter Try.func17, Try.ntmps17
        go_wp2_with (first
          | (go_at_call 46; refine (reach_any _ _ n c n d R W _ _ (hR.below hS.bel) (hW.below hS.bel)).mono ?_; rintro e w1 ⟨rfl, hb1⟩; rw [HE.out]; have hS1 := hS.next hb1; have c0 := hS1.box.cell' (i := 0) rfl; have c1 := hS1.box.cell' (i := 1) rfl; have ck1 := (hS1.bel.cell (p := ⟨bp, op + k, none⟩) hltp).trans ck; have cw1 := (hS1.bel.cell (p := ⟨bq, oq + k, none⟩) hltq).trans cw; obtain ⟨x, y, hres⟩ := hS1.res)
          | (go_at_call 47; refine (inUse_any _ _).mono ?_; rintro e w' ⟨rfl, hw'⟩; have hw2 := hw'.symm; subst hw2; clear hw'; rw [hu]))
        refine wp_region_noPanic ?_
        refine wp_region_held_drew (S := PS w (.slice (some ⟨bp, op, none⟩) n c) (.slice (some ⟨bq, oq, none⟩) n d)) (by kernel_rfl) hS1.drew (fun hHeld => ?_)
        refine wpAnyH_take (i := 0) (v := ?_) rfl (by kernel_rfl) (by kernel_rfl) (by kernel_rfl) (fun _ _ _ h => h) (Or.inl ⟨by rfl, ?_⟩) hHeld ?_
        rotate_left
        · intro w' hSw; try dsimp only at hSw
          have c0 := hSw.box.cell' (i := 0) rfl
          have c1 := hSw.box.cell' (i := 1) rfl
          go_simp; try (with_reducible rfl)
        try simp only [Act.put, List.getElem_toArray, List.getElem_cons_succ, List.getElem_cons_zero, List.setIfInBounds_toArray, List.set_cons_zero, List.set_cons_succ]
        refine wpAnyH_take (i := 1) (v := ?_) rfl (by kernel_rfl) (by kernel_rfl) (by kernel_rfl) (fun _ _ _ h => h) (Or.inl ⟨by rfl, ?_⟩) hHeld ?_
        rotate_left
        · intro w' hSw; try dsimp only at hSw
          go_simp; try (with_reducible rfl)
        try simp only [Act.put, List.getElem_toArray, List.getElem_cons_succ, List.getElem_cons_zero, List.setIfInBounds_toArray, List.set_cons_zero, List.set_cons_succ]
        refine wpAnyH_take (i := 2) (v := ?_) rfl (by kernel_rfl) (by kernel_rfl) (by kernel_rfl) (fun _ _ _ h => h) (Or.inl ⟨by rfl, ?_⟩) hHeld ?_
        rotate_left
        · intro w' hSw; try dsimp only at hSw
          go_simp; try (with_reducible rfl)
        try simp only [Act.put, List.getElem_toArray, List.getElem_cons_succ, List.getElem_cons_zero, List.setIfInBounds_toArray, List.set_cons_zero, List.set_cons_succ]
        refine wpAnyH_take (i := 3) (v := ?_) rfl (by kernel_rfl) (by kernel_rfl) (by kernel_rfl) (fun _ _ _ h => h) (Or.inl ⟨by rfl, ?_⟩) hHeld ?_
        rotate_left
        · intro w' hSw; try dsimp only at hSw
          go_simp; try (with_reducible rfl)
        try simp only [Act.put, List.getElem_toArray, List.getElem_cons_succ, List.getElem_cons_zero, List.setIfInBounds_toArray, List.set_cons_zero, List.set_cons_succ]
        refine wpAnyH_take (i := 4) (v := ?_) rfl (by kernel_rfl) (by kernel_rfl) (by kernel_rfl) (fun _ _ _ h => h) (Or.inl ⟨by rfl, ?_⟩) hHeld ?_
        rotate_left
        · intro w' hSw; try dsimp only at hSw
          have c0 := hSw.box.cell' (i := 0) rfl
          have c1 := hSw.box.cell' (i := 1) rfl
          go_simp; try (with_reducible rfl)
        try simp only [Act.put, List.getElem_toArray, List.getElem_cons_succ, List.getElem_cons_zero, List.setIfInBounds_toArray, List.set_cons_zero, List.set_cons_succ]
        refine wpAnyH_take (i := 5) (v := ?_) rfl (by kernel_rfl) (by kernel_rfl) (by kernel_rfl) (fun _ _ _ h => h) (Or.inl ⟨by rfl, ?_⟩) hHeld ?_
        rotate_left
        · intro w' hSw; try dsimp only at hSw
          go_simp; try (with_reducible rfl)
        try simp only [Act.put, List.getElem_toArray, List.getElem_cons_succ, List.getElem_cons_zero, List.setIfInBounds_toArray, List.set_cons_zero, List.set_cons_succ]
        refine wpAnyH_take (i := 6) (v := ?_) rfl (by kernel_rfl) (by kernel_rfl) (by kernel_rfl) (fun _ _ _ h => h) (Or.inl ⟨by rfl, ?_⟩) hHeld ?_
        rotate_left
        · intro w' hSw; try dsimp only at hSw
          go_simp; try (with_reducible rfl)
        try simp only [Act.put, List.getElem_toArray, List.getElem_cons_succ, List.getElem_cons_zero, List.setIfInBounds_toArray, List.set_cons_zero, List.set_cons_succ]
        refine wpAnyH_take (i := 7) (v := ?_) rfl (by kernel_rfl) (by kernel_rfl) (by kernel_rfl) (fun _ _ _ h => h) (Or.inl ⟨by rfl, ?_⟩) hHeld ?_
        rotate_left
        · intro w' hSw; try dsimp only at hSw
          have cw1 := (hSw.bel.cell (p := ⟨bq, oq + k, none⟩) hltq).trans cw
          go_simp; try (with_reducible rfl)
        try simp only [Act.put, List.getElem_toArray, List.getElem_cons_succ, List.getElem_cons_zero, List.setIfInBounds_toArray, List.set_cons_zero, List.set_cons_succ]
        refine wpAnyH_ready (rs := [8]) (by kernel_rfl) (by simp) ?_
        refine AllReadyH.cons rfl (fun K hK => ?_) AllReadyH.nil
        go_simp
        refine (with_any _ _ n c n d R W _ (hR.below hHeld.bel) (hW.below hHeld.bel) k hk hk (by omega) (by omega) role (eI W k) (eI W k) (Int.min_eq_left hwk.2).symm).mono ?_
        rintro e w2 ⟨p1, c2, q1, d2, rfl, hnp, hb2⟩
        try go_wp2_with fail
        refine hK.out _ _ (hHeld.next hb2) (fun hHeld => ?_)
        clear hK K
        try simp only [Act.put, List.getElem_toArray, List.getElem_cons_succ, List.getElem_cons_zero, List.setIfInBounds_toArray, List.set_cons_zero, List.set_cons_succ]
        have hfar : FarP (w.heap.size + 1) p1 q1 := far_of hnp.r hnp.v (hres.drew.lt) (hres.drew.lt)
        obtain ⟨x2, y2, hres2⟩ := hHeld.res
        have hnp2 := hnp.low hS1.drew.bel.size
        refine wpAnyH_ready (rs := [9]) (by kernel_rfl) (by simp) ?_
        refine AllReadyH.cons rfl (fun K hK => ?_) AllReadyH.nil
        rw [if_pos (by rfl)]
        refine wp_store_blk 25 (.tmp 6) _ rfl _ _ [.slice p1 n c2, .slice q1 n d2] rfl rfl hres2 (by simp) (poolSize _ _) one2 ?_
        intro w9 h9 ht9
        replace h9 : Blk w9 (w.heap.size + 1) 25 [.slice p1 n c2, .slice q1 n d2] := h9
        refine hK.out _ _ (hHeld.stored ht9 h9) (fun hHeld => ?_)
        clear hK K
        try simp only [Act.put, List.getElem_toArray, List.getElem_cons_succ, List.getElem_cons_zero, List.setIfInBounds_toArray, List.set_cons_zero, List.set_cons_succ]
        refine wpAnyH_take (i := 10) (v := ?_) rfl (by kernel_rfl) (by kernel_rfl) (by kernel_rfl) (fun _ _ _ h => h) (Or.inl ⟨by rfl, ?_⟩) hHeld ?_
        rotate_left
        · intro w' hSw; try dsimp only at hSw
          go_simp; try (with_reducible rfl)
        try simp only [Act.put, List.getElem_toArray, List.getElem_cons_succ, List.getElem_cons_zero, List.setIfInBounds_toArray, List.set_cons_zero, List.set_cons_succ]
        refine wpAnyH_done (by kernel_rfl) ?_ _
        refine NoPanic.normal ?_
        go_wp2_with fail
        rw [HS.out]
        refine ret_poolE Try.results17 rfl h9 rfl rfl ⟨_, _, _, _, _, _, rfl, ?_, hHeld.bel⟩
        exact hnp2.turned ht9 hfar
      · have HS : Hid (takeS R W (k : Int) role = ([], [], 41)) := by
          show _ = _
          unfold takeS; rw [if_pos HE.out, Int.toNat_natCast, hu, decide_eq_false h1]; rfl
        have h1b : (eI R k != 1) = true := by simpa using h1
        clear h1
        go_enter Try.func17, Try.ntmps17
        go_wp2_with (first
          | (go_at_call 46; refine (reach_any _ _ n c n d R W _ _ (hR.below hS.bel) (hW.below hS.bel)).mono ?_; rintro e w1 ⟨rfl, hb1⟩; rw [HE.out]; have hS1 := hS.next hb1; have c0 := hS1.box.cell' (i := 0) rfl; have c1 := hS1.box.cell' (i := 1) rfl; have ck1 := (hS1.bel.cell (p := ⟨bp, op + k, none⟩) hltp).trans ck; have cw1 := (hS1.bel.cell (p := ⟨bq, oq + k, none⟩) hltq).trans cw; obtain ⟨x, y, hres⟩ := hS1.res)
          | (go_at_call 47; refine (inUse_any _ _).mono ?_; rintro e w' ⟨rfl, hw'⟩; have hw2 := hw'.symm; subst hw2; clear hw'; rw [hu])
          | (refine wpList_store_blk rfl 25 (.tmp 6) (.tmp 27) rfl _ _ [.slice none 0 0, .slice none 0 0] rfl rfl hres (by simp) (poolSize _ _) one2 ?_; intro w9 h9 ht9; replace h9 : Blk w9 (w.heap.size + 1) 25 [.slice none 0 0, .slice none 0 0] := h9))
        rw [HS.out]
        exact ret_poolE Try.results17 rfl h9 rfl rfl ⟨_, _, _, _, _, _, rfl, NewP.zero _ _, ht9.below hS1.bel (by omega)⟩
    | false =>
      have HS : Hid (takeS R W (k : Int) role = ([], [], 41)) := by
        show _ = _
        unfold takeS; rw [if_pos HE.out, hu]; rfl
      go_enter Try.func17, Try.ntmps17
      go_wp2_with (first
        | (go_at_call 46; refine (reach_any _ _ n c n d R W _ _ (hR.below hS.bel) (hW.below hS.bel)).mono ?_; rintro e w1 ⟨rfl, hb1⟩; rw [HE.out]; have hS1 := hS.next hb1; have c0 := hS1.box.cell' (i := 0) rfl; have c1 := hS1.box.cell' (i := 1) rfl; have ck1 := (hS1.bel.cell (p := ⟨bp, op + k, none⟩) hltp).trans ck; have cw1 := (hS1.bel.cell (p := ⟨bq, oq + k, none⟩) hltq).trans cw; obtain ⟨x, y, hres⟩ := hS1.res)
        | (go_at_call 47; refine (inUse_any _ _).mono ?_; rintro e w' ⟨rfl, hw'⟩; have hw2 := hw'.symm; subst hw2; clear hw'; rw [hu])
        | (refine wpList_store_blk rfl 25 (.tmp 6) (.tmp 27) rfl _ _ [.slice none 0 0, .slice none 0 0] rfl rfl hres (by simp) (poolSize _ _) one2 ?_; intro w9 h9 ht9; replace h9 : Blk w9 (w.heap.size + 1) 25 [.slice none 0 0, .slice none 0 0] := h9))
      rw [HS.out]
      exact ret_poolE Try.results17 rfl h9 rfl rfl ⟨_, _, _, _, _, _, rfl, NewP.zero _ _, ht9.below hS1.bel (by omega)⟩
  · have HS : Hid (takeS R W b role = ([], [], reachE R W b)) := by show _ = _; unfold takeS; rw [if_neg hre]
    have hne : (reachE R W b != 0) = true := by simpa using hre
    have hra := fun W' (h1 : InI W' p n c R) (h2 : InI W' q m d W) => reach_any p q n c m d R W b W' h1 h2
    clear hre
    generalize reachE R W b = E at *
    go_enter Try.func17, Try.ntmps17
    go_wp2_with (first
      | (go_at_call 46; refine (hra _ (hR.below hS.bel) (hW.below hS.bel)).mono ?_; rintro e w1 ⟨rfl, hb1⟩; have hS1 := hS.next hb1; obtain ⟨x, y, hres⟩ := hS1.res)
      | (refine wpList_store_blk rfl 25 (.tmp 6) (.tmp 14) rfl _ _ [.slice none 0 0, .slice none 0 0] rfl rfl hres (by simp) (poolSize _ _) one2 ?_; intro w9 h9 ht9; replace h9 : Blk w9 (w.heap.size + 1) 25 [.slice none 0 0, .slice none 0 0] := h9))
    rw [HS.out]
    exact ret_poolE Try.results17 rfl h9 rfl rfl ⟨_, _, _, _, _, _, rfl, NewP.zero _ _, ht9.below hS1.bel (by omega)⟩
end Go.Proofs.Ytigkfmdhmonjlaa
