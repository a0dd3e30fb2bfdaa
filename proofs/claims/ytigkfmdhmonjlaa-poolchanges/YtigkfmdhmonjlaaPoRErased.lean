/-
  What the reference's Erased answers.
-/
import Derived.Test.YtigkfmdhmonjlaaPoRSet
namespace Go.Proofs.Ytigkfmdhmonjlaa
open Go.RowKit
set_option linter.unusedSimpArgs false in
set_option maxHeartbeats 1000000 in
theorem rerased_any (p q : Option Addr) (n c m d : Nat) (R W : List Int) (b : Int) (w : World) (hR : InI w p n c R) (hW : InI w q m d W) :
    Calls Try.prog 22 #[.agg #[.slice p n c, .slice q m d], .int .i64 b] w (PoolRes w (erasedS R W b)) := by
  have hS := PS.start w (.slice p n c) (.slice q m d) (.slice none 0 0) (.slice none 0 0)
  have hbk := fun W' (h1 : InI W' p n c R) (h2 : InI W' q m d W) => rblock_any p q n c m d R W b W' h1 h2
  by_cases hre : reachE R W b = 0
  · have HL : Hid (R.length = n) := hR.len
    obtain ⟨hok, hnm, hnm', k, rfl, hk, hrk, hwk⟩ := reach_facts hR hW hre
    subst hnm'
    have HLW : Hid (W.length = n) := hW.len
    rw [blockS_ok hre] at hbk
    have HE : Hid (reachE R W (k : Int) = 0) := hre
    have hk1 : (k : Int) < (n : Int) := by omega
    have hw0 := hwk.1
    have hw1 := hwk.2
    have hwr : IntKind.i64.wrap (eI W k + 1) = eI W k + 1 := by rw [IntKind.wrap_i64]; omega
    clear hre
    go_enter Try.func22, Try.ntmps22
    go_upto_region 2 with (first
      | (go_at_call 49; refine (hbk _ (hR.below hS.bel) (hW.below hS.bel)).mono ?_; rintro e w1 ⟨p1, n1, c2, q1, m1, d2, rfl, hnp, hb1⟩; have en : n = n1 := by rw [← HL.out]; exact hnp.inR.len
         subst en; have em : n = m1 := by rw [← HLW.out]; exact hnp.inW.len
         subst em; have hS1 := hS.next hb1; rw [World.size_alloc, World.size_alloc] at hnp)
      | (refine wpList_store_blk rfl 25 (.tmp 2) (.tmp 11) rfl _ _ [.slice p1 n c2, .slice q1 n d2] rfl rfl hS1.box (by simp) (poolSize _ _) one2 ?_; intro w9 h9 ht9; replace h9 : Blk w9 w.heap.size 25 [.slice p1 n c2, .slice q1 n d2] := h9))
    have hS9 := hS1.boxed ht9 h9
    have hnp9 : NewP (w.heap.size + 2) w9 p1 n c2 q1 n d2 R W := hnp.turned ht9 (hnp.far (by omega))
    clear hnp hb1 hS1 hS h9 ht9 hbk hR hW
    obtain ⟨g1, rfl, hg1⟩ := owns_at hnp9.r (by omega)
    obtain ⟨g2, rfl, hg2⟩ := owns_at hnp9.v (by omega)
    have c0 := hS9.box.cell' (i := 0) rfl
    have c1 := hS9.box.cell' (i := 1) rfl
    have hr9 := hS9.res
    obtain ⟨x9, y9, hres9⟩ := hr9
    have fk := hnp9.r.cellAt k (by omega)
    rw [valsI_get R k (by rw [HL.out]; exact hk)] at fk
    by_cases h6 : eI R k = 6
    · have HS : Hid (erasedS R W (k : Int) = ([], [], 41)) := by
        have : reachGE R W (k : Int) = 41 := by unfold reachGE; rw [if_pos HE.out, Int.toNat_natCast, if_pos h6]
        show _ = _; unfold erasedS; rw [this]; rfl
      rw [h6] at fk
      clear h6 hrk
      go_wp2_with (refine wpList_store_blk rfl 25 (.tmp 4) (.tmp 23) rfl _ _ [.slice none 0 0, .slice none 0 0] rfl rfl hres9 (by simp) (poolSize _ _) one2 ?_; intro w8 h8 ht8; replace h8 : Blk w8 (w.heap.size + 1) 25 [.slice none 0 0, .slice none 0 0] := h8)
      rw [HS.out]
      exact ret_poolE Try.results22 rfl h8 rfl rfl ⟨_, _, _, _, _, _, rfl, NewP.zero _ _, ht8.below hS9.bel (by omega)⟩
    · have HS : Hid (erasedS R W (k : Int) = (R, W.set k (min (eI W k + 1) 16777215), 0)) := by
        have : reachGE R W (k : Int) = 0 := by unfold reachGE; rw [if_pos HE.out, Int.toNat_natCast, if_neg h6]
        show _ = _; unfold erasedS; rw [if_pos this, Int.toNat_natCast]
      have h6b : (eI R k == 6) = false := by simpa using h6
      clear h6
      go_upto_region 6 with (fail)
      have hS8 := hS9
      have hnp8 := hnp9
      clear fk c0 c1 hres9 hS9 hnp9 hg1 hg2
      have hS9 := hS8
      clear hS9
      have f5 := hnp8.v.cellAt k (by omega)
      rw [valsI_get W k (by rw [HLW.out]; exact hk)] at f5
      clear HL HLW hrk
      obtain ⟨mw, hmw⟩ : ∃ z, z = min (eI W k + 1) 16777215 := ⟨_, rfl⟩
      rw [← hmw] at HS
      have HM : Hid ((if 16777215 < eI W k + 1 then (16777215 : Int) else eI W k + 1) = mw) := by
        show _ = _
        rw [hmw]
        by_cases h : 16777215 < eI W k + 1
        · rw [if_pos h, Int.min_eq_right (by omega)]
        · rw [if_neg h, Int.min_eq_left (by omega)]
      clear hmw
      refine wp_region_noPanic ?_
      refine wp_region_held_drew (S := PS w (.slice (some ⟨g1, 0, none⟩) n c2) (.slice (some ⟨g2, 0, none⟩) n d2)) (by kernel_rfl) hS8.drew (fun hHeld => ?_)
      refine wpAnyH_take (i := 0) (v := ?_) rfl (by kernel_rfl) (by kernel_rfl) (by kernel_rfl) (fun _ _ _ h => h) (Or.inl ⟨by rfl, ?_⟩) hHeld ?_
      rotate_left
      · intro w' hSw; try dsimp only at hSw
        go_simp; try (with_reducible rfl)
      try simp only [Act.put, List.getElem_toArray, List.getElem_cons_succ, List.getElem_cons_zero, List.setIfInBounds_toArray, List.set_cons_zero, List.set_cons_succ]
      refine wpAnyH_take (i := 1) (v := ?_) rfl (by kernel_rfl) (by kernel_rfl) (by kernel_rfl) (fun _ _ _ h => h) (Or.inl ⟨by rfl, ?_⟩) hHeld ?_
      rotate_left
      · intro w' hSw; try dsimp only at hSw
        have e1 := hSw.box.cell' (i := 1) rfl
        go_simp; try (with_reducible rfl)
      try simp only [Act.put, List.getElem_toArray, List.getElem_cons_succ, List.getElem_cons_zero, List.setIfInBounds_toArray, List.set_cons_zero, List.set_cons_succ]
      refine wpAnyH_take (i := 2) (v := ?_) rfl (by kernel_rfl) (by kernel_rfl) (by kernel_rfl) (fun _ _ _ h => h) (Or.inl ⟨by rfl, ?_⟩) hHeld ?_
      rotate_left
      · intro w' hSw; try dsimp only at hSw
        go_simp; try (with_reducible rfl)
      try simp only [Act.put, List.getElem_toArray, List.getElem_cons_succ, List.getElem_cons_zero, List.setIfInBounds_toArray, List.set_cons_zero, List.set_cons_succ]
      refine wpAnyH_take (i := 3) (v := ?_) rfl (by kernel_rfl) (by kernel_rfl) (by kernel_rfl) (fun _ _ _ h => h) (Or.inl ⟨by rfl, ?_⟩) hHeld ?_
      rotate_left
      · intro w' hSw; try dsimp only at hSw
        go_simp; try (with_reducible rfl)
      try simp only [Act.put, List.getElem_toArray, List.getElem_cons_succ, List.getElem_cons_zero, List.setIfInBounds_toArray, List.set_cons_zero, List.set_cons_succ]
      refine wpAnyH_take (i := 4) (v := ?_) rfl (by kernel_rfl) (by kernel_rfl) (by kernel_rfl) (fun _ _ _ h => h) (Or.inl ⟨by rfl, ?_⟩) hHeld ?_
      rotate_left
      · intro w' hSw; try dsimp only at hSw
        have e1 := hSw.box.cell' (i := 1) rfl
        go_simp; try (with_reducible rfl)
      try simp only [Act.put, List.getElem_toArray, List.getElem_cons_succ, List.getElem_cons_zero, List.setIfInBounds_toArray, List.set_cons_zero, List.set_cons_succ]
      refine wpAnyH_take (i := 5) (v := ?_) rfl (by kernel_rfl) (by kernel_rfl) (by kernel_rfl) (fun _ _ _ h => h) (Or.inl ⟨by rfl, ?_⟩) hHeld ?_
      rotate_left
      · intro w' hSw; try dsimp only at hSw
        go_simp; try (with_reducible rfl)
      try simp only [Act.put, List.getElem_toArray, List.getElem_cons_succ, List.getElem_cons_zero, List.setIfInBounds_toArray, List.set_cons_zero, List.set_cons_succ]
      refine wpAnyH_take (i := 6) (v := ?_) rfl (by kernel_rfl) (by kernel_rfl) (by kernel_rfl) (fun _ _ _ h => h) (Or.inl ⟨by rfl, ?_⟩) hHeld ?_
      rotate_left
      · intro w' hSw; try dsimp only at hSw
        go_simp; try (with_reducible rfl)
      try simp only [Act.put, List.getElem_toArray, List.getElem_cons_succ, List.getElem_cons_zero, List.setIfInBounds_toArray, List.set_cons_zero, List.set_cons_succ]
      refine wpAnyH_ready (rs := [7]) (by kernel_rfl) (by simp) ?_
      refine AllReadyH.cons rfl (fun K hK => ?_) AllReadyH.nil
      go_simp
      refine hK.out _ _ hHeld (fun hHeld => ?_)
      clear hK K
      try simp only [Act.put, List.getElem_toArray, List.getElem_cons_succ, List.getElem_cons_zero, List.setIfInBounds_toArray, List.set_cons_zero, List.set_cons_succ]
      refine wpAnyH_take (i := 8) (v := ?_) rfl (by kernel_rfl) (by kernel_rfl) (by kernel_rfl) (fun _ _ _ h => h) (Or.inl ⟨by rfl, ?_⟩) hHeld ?_
      rotate_left
      · intro w' hSw; try dsimp only at hSw
        go_simp; try (with_reducible rfl)
      try simp only [Act.put, List.getElem_toArray, List.getElem_cons_succ, List.getElem_cons_zero, List.setIfInBounds_toArray, List.set_cons_zero, List.set_cons_succ]
      refine wpAnyH_ready (rs := [9]) (by kernel_rfl) (by simp) ?_
      refine AllReadyH.cons rfl (fun K hK => ?_) AllReadyH.nil
      go_simp
      refine hK.out _ _ hHeld (fun hHeld => ?_)
      clear hK K
      try simp only [Act.put, List.getElem_toArray, List.getElem_cons_succ, List.getElem_cons_zero, List.setIfInBounds_toArray, List.set_cons_zero, List.set_cons_succ]
      rw [HM.out]
      refine wpAnyH_take (i := 10) (v := ?_) rfl (by kernel_rfl) (by kernel_rfl) (by kernel_rfl) (fun _ _ _ h => h) (Or.inl ⟨by rfl, ?_⟩) hHeld ?_
      rotate_left
      · intro w' hSw; try dsimp only at hSw
        go_simp; try (with_reducible rfl)
      try simp only [Act.put, List.getElem_toArray, List.getElem_cons_succ, List.getElem_cons_zero, List.setIfInBounds_toArray, List.set_cons_zero, List.set_cons_succ]
      refine wpAnyH_ready (rs := [11]) (by kernel_rfl) (by simp) ?_
      refine AllReadyH.cons rfl (fun K hK => ?_) AllReadyH.nil
      rw [if_pos (by rfl)]
      refine wp_store_own 2 _ _ rfl g2 k mw rfl rfl hnp8.v.drew hk size2 ?_
      intro w6 ho6 ht6
      refine hK.out _ _ (hHeld.far ht6 (show w.heap.size ≠ g2 by have := hnp8.g2; omega) (show w.heap.size + 1 ≠ g2 by have := hnp8.g2; omega) (show w.heap.size ≤ g2 by have := hnp8.g2; omega)) (fun hHeld => ?_)
      clear hK K
      try simp only [Act.put, List.getElem_toArray, List.getElem_cons_succ, List.getElem_cons_zero, List.setIfInBounds_toArray, List.set_cons_zero, List.set_cons_succ]
      refine wpAnyH_done (by kernel_rfl) ?_ _
      refine NoPanic.normal ?_
      have hnp6 : NewP (w.heap.size + 2) w6 (some ⟨g1, 0, none⟩) n c2 (some ⟨g2, 0, none⟩) n d2 R (W.set k mw) := NewP.setW (W := w9.drew) ⟨hnp8.r, hnp8.v, hnp8.hn, hnp8.hm, hnp8.ne⟩ ht6 ho6
      have d0 := hHeld.box.cell' (i := 0) rfl
      have d1 := hHeld.box.cell' (i := 1) rfl
      obtain ⟨x6, y6, hres6⟩ := hHeld.res
      clear hnp8 hS8 f5 ho6 ht6 HM
      go_wp2_with (refine wpList_store_blk rfl 25 (.tmp 4) (.tmp 35) rfl _ _ [.slice (some ⟨g1, 0, none⟩) n c2, .slice (some ⟨g2, 0, none⟩) n d2] rfl rfl hres6 (by simp) (poolSize _ _) one2 ?_; intro w8 h8 ht8; replace h8 : Blk w8 (w.heap.size + 1) 25 [.slice (some ⟨g1, 0, none⟩) n c2, .slice (some ⟨g2, 0, none⟩) n d2] := h8)
      rw [HS.out]
      exact ret_poolE Try.results22 rfl h8 rfl rfl ⟨_, _, _, _, _, _, rfl, (hnp6.turned ht8 (hnp6.far (by omega))).low (by omega), ht8.below hHeld.bel (by omega)⟩
  · have HS : Hid (erasedS R W b = ([], [], reachE R W b)) := by show _ = _; unfold erasedS; unfold reachGE; rw [if_neg hre, if_neg hre]
    have hne : (reachE R W b != 0) = true := by simpa using hre
    rw [blockS_no hre] at hbk
    clear hre
    generalize reachE R W b = E at *
    go_enter Try.func22, Try.ntmps22
    go_upto_region 2 with (first
      | (go_at_call 49; refine (hbk _ (hR.below hS.bel) (hW.below hS.bel)).mono ?_; rintro e w1 ⟨p1, n1, c2, q1, m1, d2, rfl, hnp, hb1⟩; have hS1 := hS.next hb1)
      | (refine wpList_store_blk rfl 25 (.tmp 2) (.tmp 11) rfl _ _ [.slice p1 n1 c2, .slice q1 m1 d2] rfl rfl hS1.box (by simp) (poolSize _ _) one2 ?_; intro w9 h9 ht9; replace h9 : Blk w9 w.heap.size 25 [.slice p1 n1 c2, .slice q1 m1 d2] := h9))
    have hS9 := hS1.boxed ht9 h9
    obtain ⟨x9, y9, hres9⟩ := hS9.res
    clear hnp hb1 hS1 hS h9 ht9 hbk hR hW
    go_wp2_with (refine wpList_store_blk rfl 25 (.tmp 4) (.tmp 15) rfl _ _ [.slice none 0 0, .slice none 0 0] rfl rfl hres9 (by simp) (poolSize _ _) one2 ?_; intro w8 h8 ht8; replace h8 : Blk w8 (w.heap.size + 1) 25 [.slice none 0 0, .slice none 0 0] := h8)
    rw [HS.out]
    exact ret_poolE Try.results22 rfl h8 rfl rfl ⟨_, _, _, _, _, _, rfl, NewP.zero _ _, ht8.below hS9.bel (by omega)⟩
end Go.Proofs.Ytigkfmdhmonjlaa
