/-
  The reference's Table, of sizes that fit.
-/
import Derived.Test.YtfgelncfmopibaaSnTab
namespace Go.Proofs.Ytfgelncfmopibaa
open Go.RowKit
theorem newR_rows (P L : Nat) (K : Int) (n : Nat) (w : World) (hok : okSz (P : Int) (L : Int) K = true) (hm : (L : Int) * (P : Int) = (n : Int)) :
    Calls Try.prog 39 #[.int .i64 (P : Int), .int .i64 (L : Int), .int .i64 K] w fun e w' => NewR w.heap.size w' P L K n e ∧ Below w.heap.size w w' := by
  obtain ⟨r1, r2, r3⟩ := okSz_iff.1 hok
  have := prod_bd r2 r1
  refine (r05new_ok (P : Int) L K n w hok hm).mono ?_
  rintro e w' ⟨V, he, ho, h1, h2, h3, hb⟩
  exact ⟨newR_of (by omega) (by omega) he ho h1 h2 h3, hb⟩
set_option linter.unusedSimpArgs false in
set_option maxRecDepth 100000 in
set_option maxHeartbeats 8000000 in
theorem tableR_ok (P L : Nat) (K : Int) (n : Nat) (p : Option Addr) (c : Nat) (zs : List Pl) (w : World) (hz : InZ w p n c zs) (hok : okSz (P : Int) (L : Int) K = true) (HM : Hid (n = L * P)) :
    Calls Try.prog 24 #[.int .i64 (P : Int), .int .i64 (L : Int), .int .i64 K, .slice p n c] w fun e w' => TabOut w' P L K n (tabTo zs P L n L) e ∧ Below w.heap.size w w' := by
  have hLP : (L : Int) * (P : Int) = (n : Int) := by rw [HM.out]; exact (Int.natCast_mul L P).symm
  have hnew := fun w => newR_rows P L K n w hok hLP
  obtain ⟨⟨r1, r2⟩, ⟨r3, r4⟩, _⟩ := okSz_iff.1 hok
  have hnb := prod_bd ⟨r3, r4⟩ ⟨r1, r2⟩
  have hn1 : n ≤ 8192 := by omega
  have hn4 : 4 ≤ n := by omega
  have hnI : (n : Int) ≤ 8192 := by omega
  obtain ⟨bz, oz, rfl, hbz, -⟩ := hz.at' (by omega)
  clear hok hnb
  have r0 := Blk.new' w 56 #[.int .i64 0, .int .i64 0, .int .i64 0, .slice none 0 0, .slice none 0 0, .int .i64 0, .int .i64 0, .int .i64 0, .slice none 0 0]
  have k0 := below_alloc w (.cells #[.int .i64 0, .int .i64 0, .int .i64 0, .slice none 0 0, .slice none 0 0, .int .i64 0, .int .i64 0, .int .i64 0, .slice none 0 0] 56)
  have hs0 : (w.alloc (.cells #[.int .i64 0, .int .i64 0, .int .i64 0, .slice none 0 0, .slice none 0 0, .int .i64 0, .int .i64 0, .int .i64 0, .slice none 0 0] 56)).heap.size = w.heap.size + 1 := World.size_alloc _ _
  go_enter Try.func24, Try.ntmps24
  go_upto_region 1 with (fail)
  generalize w.alloc (.cells #[.int .i64 0, .int .i64 0, .int .i64 0, .slice none 0 0, .slice none 0 0, .int .i64 0, .int .i64 0, .int .i64 0, .slice none 0 0] 56) = W0 at *
  go_upto_region 2 with (first | (go_at_call 39; refine (hnew _).mono ?_; rintro e w1 ⟨⟨gd, cd, gh, ch, pl, cl, rfl, hd1, hh1, hl1⟩, hb1⟩) | (refine wpList_store_blk rfl 56 (.tmp 11) (.tmp 23) rfl w1.heap.size 0 (cells9 P L K n gd cd gh ch pl cl) rfl rfl (Blk.new' w1 56 #[.int .i64 0, .int .i64 0, .int .i64 0, .slice none 0 0, .slice none 0 0, .int .i64 0, .int .i64 0, .int .i64 0, .slice none 0 0]) (by exact Nat.le_refl _) (size9 _ _ _ _ _ _ _ _ _ _) (one9 _ _ _ _ _ _ _ _ _ _) ?_; intro W4 h4 ht4; rw [whole_row (by rfl)] at h4))
  have k4 : Below w1.heap.size w1 W4 := ht4.below (below_alloc w1 _) (Nat.le_refl _)
  have s4 : w1.heap.size < W4.heap.size := by rw [ht4.size, World.size_alloc]; omega
  rw [hs0] at hd1 hh1
  have hgd := (hd1.lt gd rfl)
  have hgh := (hh1.lt gh rfl)
  have hne : gd ≠ gh := by
    intro e
    subst e
    obtain ⟨c1, e1⟩ := owns_has hd1
    obtain ⟨c2, e2⟩ := owns_has hh1
    rw [e1] at e2
    cases e2
  have hT0 : ∀ gT, gT = w1.heap.size → TS w W4 W4 P L K n gd cd gh ch gT pl cl (tabTo zs P L n 0) none 0 0 := fun gT e => TS.start zs ((r0.kept hb1).kept k4) (by rw [e]; exact h4) (owns_below hd1 k4) (owns_below hh1 k4) (bt (bt k0 hb1) k4)
  obtain ⟨gT, HgT⟩ : ∃ g, g = w1.heap.size := ⟨_, rfl⟩
  replace hT0 := hT0 gT HgT
  rw [← HgT] at s4 hgd hgh ⊢
  clear HgT h4 ht4 r0 k0 hb1 hd1 hh1 hnew hs0 k4
  have hLI : (L : Int) ≤ 256 := r4
  obtain ⟨w3, Hw3⟩ : ∃ W, W = W4 := ⟨_, rfl⟩
  rw [← Hw3] at hT0 s4 ⊢
  clear Hw3
  have hLie : Lie w w3 gd gh gT := ⟨hgd.1, hgh.1, by omega, by omega, by omega, hne⟩
  go_wp2
  go_loopw [13, 14] (fun v i wr => ∃ (b : Nat) (q : Option Addr) (lq cq : Nat), b ≤ L ∧ i = .int .i64 b ∧ v = .slice q lq cq ∧ TS w w3 wr P L K n gd cd gh ch gT pl cl (tabTo zs P L n b) q lq cq) (fun _ i _ => L - (intOf i).toNat)
  case atStart => exact ⟨0, none, 0, 0, Nat.zero_le _, rfl, rfl, hT0⟩
  case round =>
    obtain ⟨b, q, lq, cq, hb, rfl, rfl, hT⟩ := hrel
    clear hT0
    have hll := tabTo_l zs P L n b
    have hdl := tabTo_d zs P L n b
    have hhl := tabTo_h zs P L n b
    have hlen := hT.len
    by_cases hlt : b < L
    · have hbI : (b : Int) < (L : Int) := by omega
      obtain ⟨a, HA⟩ : ∃ a, Hid (a = b * P) := ⟨_, rfl⟩
      have hab : (b : Int) * (P : Int) = (a : Int) := by rw [HA.out]; exact (Int.natCast_mul b P).symm
      have haP : a + P ≤ n := by rw [HA.out, HM.out, ← Nat.succ_mul]; exact Nat.mul_le_mul_right P hlt
      have haI : (a : Int) ≤ 8192 := by omega
      have HT : Hid (tabTo zs P L n (b + 1) = tabStep zs P n b (tabTo zs P L n b)) := rfl
      have hset := settledR_ok P b a L _ n c zs wr (hz.below hT.bel) (by omega) HA HM (by omega) (by omega) hlt
      have HE : Hid (setR zs P b (b * P) n = setR zs P b a n) := by rw [HA.out]; rfl
      generalize tabTo zs P L n b = T at *
      generalize setR zs P b a n = R at *
      obtain ⟨h, ok⟩ := R
      dsimp only at hset
      cases ok with
      | false =>
        have hsm := fun (W : World) (hW : Below wr.heap.size wr W) => some_any P b a _ n c zs W ((hz.below hT.bel).below hW) (by omega) HA (by omega) haP
        cases hs : someTo zs a P with
        | false =>
          rw [hs] at hsm
          have HT' : Hid (tabTo zs P L n (b + 1) = T) := HT.out.trans (step_no HE.out (by rw [← HA.out]; exact hs))
          clear HT HE hs
          go_wp2_with (first | (go_at_call 22; refine hset.mono ?_; rintro e w5 ⟨rfl, hb5⟩) | (go_at_call 53; refine (hsm _ hb5).mono ?_; rintro e w6 ⟨rfl, hb6⟩))
          go_roundw
          case rel => exact ⟨b + 1, q, lq, cq, by omega, by go_num, rfl, by rw [HT'.out]; exact hT.next (bt hb5 hb6)⟩
          case measure => simp [intOf]; omega
        | true =>
          rw [hs] at hsm
          have HT' : Hid (tabTo zs P L n (b + 1) = ⟨T.d, T.h, T.l ++ [(b : Int)]⟩) := HT.out.trans (step_loose HE.out (by rw [← HA.out]; exact hs))
          clear HT HE hs
          obtain ⟨i0, hi, hz0, hz1, hz2⟩ := info_parts infoI
          go_wp2_with (first | (go_at_call 22; refine hset.mono ?_; rintro e w5 ⟨rfl, hb5⟩) | (go_at_call 53; refine (hsm _ hb5).mono ?_; rintro e w6 ⟨rfl, hb6⟩; have hb56 := bt hb5 hb6; have HW : Hid (w6.ownsRow w3.heap.size 3 1 (.slice q lq cq) lq (valsI T.l)) := owns_below hT.l hb56; have hs5 : w3.heap.size ≤ w6.heap.size := Nat.le_trans hT.size hb56.size) | (at_builtin; refine wpList_append_own _ rfl (.tmp 54) (.tmp 56) 50 rfl w3.heap.size 3 i0 (.int .i64 0) 1 8 Try.underlying50 hi hz0 hz1 hz2 rfl (by decide) (.slice q lq cq) lq (valsI T.l) rfl (HW.out.alloc _) ⟨w6.heap.size, 0, none⟩ 1 1 [.int .i64 (b : Int)] rfl rfl (new_one w6 _) (by simp [Value.oneCell']) (by unfold maxLen; omega) (by omega) (by rw [World.size_alloc]; omega) ?_; intro v1 w7 hown1 hgrow1 _; obtain ⟨q', cq', hv⟩ := owns_slice hown1; subst hv))
          go_roundw
          case rel => exact ⟨b + 1, q', lq + 1, cq', by omega, by go_num, rfl, by rw [HT'.out]; exact hT.app hLie (b : Int) (bt hb56 (below_alloc w6 _)) hown1 hgrow1⟩
          case measure => simp [intOf]; omega
      | true =>
        have HT' : Hid (tabTo zs P L n (b + 1) = ⟨T.d.set b h, havTo T.h zs a P, T.l⟩) := by
          have := HT.out.trans (step_yes HE.out)
          rw [← HA.out] at this
          exact this
        clear HE HT
        go_upto_region 14 with (go_at_call 22; refine hset.mono ?_; rintro e w5 ⟨rfl, hb5⟩)
        replace hT := hT.next hb5
        have x3 := hT.tab.cell' (i := 3) rfl
        have hcd := hT.d.cellAt b (by omega)
        rw [valsI_get T.d b (by omega)] at hcd
        have hfd := hT.d.frozenAt b
        have hT5 := hT.setD hLie b h
        clear hset hb5
        go_wp2
        generalize w5.setCell ⟨gd, b, none⟩ (.int .i64 h) = W5 at *
        clear x3 hcd hfd hT
        go_loopw [17] (fun i wr => ∃ k : Nat, k ≤ P ∧ i = .int .i64 k ∧ TS w w3 wr P L K n gd cd gh ch gT pl cl ⟨T.d.set b h, havTo T.h zs a k, T.l⟩ q lq cq) (fun i _ => P - (intOf i).toNat)
        case atStart => exact ⟨0, Nat.zero_le _, rfl, hT5⟩
        case round =>
          obtain ⟨k, hk, rfl, hKs⟩ := hrel
          clear hT5
          by_cases hkl : k < P
          · have hkI : (k : Int) < (P : Int) := by omega
            obtain ⟨bz', oz', e', hbz', hc⟩ := (hz.below hKs.bel).at' (by omega)
            cases e'
            obtain ⟨j, hj⟩ : ∃ j, j = a + k := ⟨_, rfl⟩
            obtain ⟨e0, e1⟩ := hc j (by omega)
            have hjI : (a : Int) + (k : Int) = (j : Int) := by omega
            have hjn : (j : Int) < (n : Int) := by omega
            have hjb : (j : Int) ≤ 8192 := by omega
            have HV : Hid (havTo T.h zs a (k + 1) = (havTo T.h zs a k).set j (isPl (eZ zs j))) := by rw [hj]; rfl
            clear hj
            have hvl := havTo_length T.h zs a k
            generalize havTo T.h zs a k = V at *
            generalize eZ zs j = z at *
            obtain ⟨zh, zg⟩ := z
            dsimp only at e0 e1 HV
            clear hc
            go_upto_region 18 with (fail)
            refine wp_region_noPanic ?_
            refine wp_region_held_drew (S := fun X => Blk X gT 56 (cells9 P L K n gd cd gh ch pl cl) ∧ X.cell? ⟨bz, oz + j * 2, none⟩ = some (.int .i64 zh) ∧ X.cell? ⟨bz, oz + j * 2 + 1, none⟩ = some (.int .i64 zg)) (by kernel_rfl) ⟨hKs.tab.drew, e0, e1⟩ (fun hHeld => ?_)
            replace hKs := hKs.drew
            generalize wr.drew = W6 at *
            have hjw : IntKind.i64.wrap (j : Int) = (j : Int) := wrapN j (by omega)
            have haw : IntKind.i64.wrap (a : Int) = (a : Int) := wrapN a (by omega)
            have hsw := hKs.bel.size
            refine wpAnyH_take (i := 0) (v := ?_) rfl (by kernel_rfl) (by kernel_rfl) (by kernel_rfl) (fun _ _ _ h => h) (Or.inl ⟨by rfl, ?_⟩) hHeld ?_
            rotate_left
            · intro w' hSw; try dsimp only at hSw
              go_simp; try (with_reducible rfl)
            try simp only [Act.put, List.getElem_toArray, List.getElem_cons_succ, List.getElem_cons_zero, List.setIfInBounds_toArray, List.set_cons_zero, List.set_cons_succ]
            refine wpAnyH_take (i := 1) (v := ?_) rfl (by kernel_rfl) (by kernel_rfl) (by kernel_rfl) (fun _ _ _ h => h) (Or.inl ⟨by rfl, ?_⟩) hHeld ?_
            rotate_left
            · intro w' hSw; try dsimp only at hSw
              obtain ⟨y, _⟩ := hSw
              have y4 := y.cell' (i := 4) rfl
              go_simp; try (with_reducible rfl)
            try simp only [Act.put, List.getElem_toArray, List.getElem_cons_succ, List.getElem_cons_zero, List.setIfInBounds_toArray, List.set_cons_zero, List.set_cons_succ]
            refine wpAnyH_take (i := 2) (v := ?_) rfl (by kernel_rfl) (by kernel_rfl) (by kernel_rfl) (fun _ _ _ h => h) (Or.inl ⟨by rfl, ?_⟩) hHeld ?_
            rotate_left
            · intro w' hSw; try dsimp only at hSw
              go_simp; try (with_reducible rfl)
            try simp only [Act.put, List.getElem_toArray, List.getElem_cons_succ, List.getElem_cons_zero, List.setIfInBounds_toArray, List.set_cons_zero, List.set_cons_succ]
            refine wpAnyH_take (i := 3) (v := ?_) rfl (by kernel_rfl) (by kernel_rfl) (by kernel_rfl) (fun _ _ _ h => h) (Or.inl ⟨by rfl, ?_⟩) hHeld ?_
            rotate_left
            · intro w' hSw; try dsimp only at hSw
              go_simp; try (with_reducible rfl)
            try simp only [Act.put, List.getElem_toArray, List.getElem_cons_succ, List.getElem_cons_zero, List.setIfInBounds_toArray, List.set_cons_zero, List.set_cons_succ]
            refine wpAnyH_take (i := 4) (v := ?_) rfl (by kernel_rfl) (by kernel_rfl) (by kernel_rfl) (fun _ _ _ h => h) (Or.inl ⟨by rfl, ?_⟩) hHeld ?_
            rotate_left
            · intro w' hSw; try dsimp only at hSw
              go_simp; try (with_reducible rfl)
            try simp only [Act.put, List.getElem_toArray, List.getElem_cons_succ, List.getElem_cons_zero, List.setIfInBounds_toArray, List.set_cons_zero, List.set_cons_succ]
            refine wpAnyH_take (i := 5) (v := ?_) rfl (by kernel_rfl) (by kernel_rfl) (by kernel_rfl) (fun _ _ _ h => h) (Or.inl ⟨by rfl, ?_⟩) hHeld ?_
            rotate_left
            · intro w' hSw; try dsimp only at hSw
              go_simp; try (with_reducible rfl)
            try simp only [Act.put, List.getElem_toArray, List.getElem_cons_succ, List.getElem_cons_zero, List.setIfInBounds_toArray, List.set_cons_zero, List.set_cons_succ]
            refine wpAnyH_take (i := 6) (v := ?_) rfl (by kernel_rfl) (by kernel_rfl) (by kernel_rfl) (fun _ _ _ h => h) (Or.inl ⟨by rfl, ?_⟩) hHeld ?_
            rotate_left
            · intro w' hSw; try dsimp only at hSw
              go_simp; try (with_reducible rfl)
            try simp only [Act.put, List.getElem_toArray, List.getElem_cons_succ, List.getElem_cons_zero, List.setIfInBounds_toArray, List.set_cons_zero, List.set_cons_succ]
            refine wpAnyH_take (i := 7) (v := ?_) rfl (by kernel_rfl) (by kernel_rfl) (by kernel_rfl) (fun _ _ _ h => h) (Or.inl ⟨by rfl, ?_⟩) hHeld ?_
            rotate_left
            · intro w' hSw; try dsimp only at hSw
              go_simp; try (with_reducible rfl)
            try simp only [Act.put, List.getElem_toArray, List.getElem_cons_succ, List.getElem_cons_zero, List.setIfInBounds_toArray, List.set_cons_zero, List.set_cons_succ]
            refine wpAnyH_take (i := 8) (v := ?_) rfl (by kernel_rfl) (by kernel_rfl) (by kernel_rfl) (fun _ _ _ h => h) (Or.inl ⟨by rfl, ?_⟩) hHeld ?_
            rotate_left
            · intro w' hSw; try dsimp only at hSw
              go_simp; try (with_reducible rfl)
            try simp only [Act.put, List.getElem_toArray, List.getElem_cons_succ, List.getElem_cons_zero, List.setIfInBounds_toArray, List.set_cons_zero, List.set_cons_succ]
            refine wpAnyH_take (i := 9) (v := ?_) rfl (by kernel_rfl) (by kernel_rfl) (by kernel_rfl) (fun _ _ _ h => h) (Or.inl ⟨by rfl, ?_⟩) hHeld ?_
            rotate_left
            · intro w' hSw; try dsimp only at hSw
              go_simp; try (with_reducible rfl)
            try simp only [Act.put, List.getElem_toArray, List.getElem_cons_succ, List.getElem_cons_zero, List.setIfInBounds_toArray, List.set_cons_zero, List.set_cons_succ]
            refine wpAnyH_take (i := 10) (v := ?_) rfl (by kernel_rfl) (by kernel_rfl) (by kernel_rfl) (fun _ _ _ h => h) (Or.inl ⟨by rfl, ?_⟩) hHeld ?_
            rotate_left
            · intro w' hSw; try dsimp only at hSw
              go_simp; try (with_reducible rfl)
            try simp only [Act.put, List.getElem_toArray, List.getElem_cons_succ, List.getElem_cons_zero, List.setIfInBounds_toArray, List.set_cons_zero, List.set_cons_succ]
            refine wpAnyH_take (i := 11) (v := ?_) rfl (by kernel_rfl) (by kernel_rfl) (by kernel_rfl) (fun _ _ _ h => h) (Or.inl ⟨by rfl, ?_⟩) hHeld ?_
            rotate_left
            · intro w' hSw; try dsimp only at hSw
              go_simp; try (with_reducible rfl)
            try simp only [Act.put, List.getElem_toArray, List.getElem_cons_succ, List.getElem_cons_zero, List.setIfInBounds_toArray, List.set_cons_zero, List.set_cons_succ]
            refine wpAnyH_take (i := 12) (v := ?_) rfl (by kernel_rfl) (by kernel_rfl) (by kernel_rfl) (fun _ _ _ h => h) (Or.inl ⟨by rfl, ?_⟩) hHeld ?_
            rotate_left
            · intro w' hSw; try dsimp only at hSw
              go_simp; try (with_reducible rfl)
            try simp only [Act.put, List.getElem_toArray, List.getElem_cons_succ, List.getElem_cons_zero, List.setIfInBounds_toArray, List.set_cons_zero, List.set_cons_succ]
            refine wpAnyH_take (i := 13) (v := ?_) rfl (by kernel_rfl) (by kernel_rfl) (by kernel_rfl) (fun _ _ _ h => h) (Or.inl ⟨by rfl, ?_⟩) hHeld ?_
            rotate_left
            · intro w' hSw; try dsimp only at hSw
              go_simp; try (with_reducible rfl)
            try simp only [Act.put, List.getElem_toArray, List.getElem_cons_succ, List.getElem_cons_zero, List.setIfInBounds_toArray, List.set_cons_zero, List.set_cons_succ]
            refine wpAnyH_take (i := 14) (v := ?_) rfl (by kernel_rfl) (by kernel_rfl) (by kernel_rfl) (fun _ _ _ h => h) (Or.inl ⟨by rfl, ?_⟩) hHeld ?_
            rotate_left
            · intro w' hSw; try dsimp only at hSw
              obtain ⟨_, y0, y1⟩ := hSw
              go_simp; try (with_reducible rfl)
            try simp only [Act.put, List.getElem_toArray, List.getElem_cons_succ, List.getElem_cons_zero, List.setIfInBounds_toArray, List.set_cons_zero, List.set_cons_succ]
            refine wpAnyH_ready (rs := [15]) (by kernel_rfl) (by simp) ?_
            refine AllReadyH.cons rfl (fun K hK => ?_) AllReadyH.nil
            go_simp
            refine (is_any _ _ _).mono ?_
            rintro e W7 ⟨rfl, hb7⟩
            try go_wp2_with fail
            refine hK.out _ _ ⟨hHeld.1.kept hb7, (hb7.cell (p := ⟨bz, oz + j * 2, none⟩) (Nat.lt_of_lt_of_le hbz hsw)).trans hHeld.2.1, (hb7.cell (p := ⟨bz, oz + j * 2 + 1, none⟩) (Nat.lt_of_lt_of_le hbz hsw)).trans hHeld.2.2⟩ (fun hHeld => ?_)
            clear hK K
            try simp only [Act.put, List.getElem_toArray, List.getElem_cons_succ, List.getElem_cons_zero, List.setIfInBounds_toArray, List.set_cons_zero, List.set_cons_succ]
            replace hKs := hKs.next hb7
            have o1 := hLie.hT
            have o2 := hLie.h
            refine wpAnyH_take (i := 16) (v := ?_) rfl (by kernel_rfl) (by kernel_rfl) (by kernel_rfl) (fun _ _ _ h => h) (Or.inl ⟨by rfl, ?_⟩) hHeld ?_
            rotate_left
            · intro w' hSw; try dsimp only at hSw
              go_simp; try (with_reducible rfl)
            try simp only [Act.put, List.getElem_toArray, List.getElem_cons_succ, List.getElem_cons_zero, List.setIfInBounds_toArray, List.set_cons_zero, List.set_cons_succ]
            refine wpAnyH_ready (rs := [17]) (by kernel_rfl) (by simp) ?_
            refine AllReadyH.cons rfl (fun K hK => ?_) AllReadyH.nil
            rw [if_pos (by rfl)]
            refine wp_store_row 4 (.tmp 84) (.tmp 83) rfl gh j (.bool (isPl ⟨zh, zg⟩)) rfl rfl hKs.h (by omega) (by kernel_rfl) rfl ?_
            intro W8 hh8 ht8
            refine hK.out _ _ ⟨hHeld.1.turned ht8 (by omega), (World.cell?_of_block (a := ⟨bz, oz + j * 2, none⟩) (ht8.block bz (by omega))).trans hHeld.2.1, (World.cell?_of_block (a := ⟨bz, oz + j * 2 + 1, none⟩) (ht8.block bz (by omega))).trans hHeld.2.2⟩ (fun hHeld => ?_)
            clear hK K
            try simp only [Act.put, List.getElem_toArray, List.getElem_cons_succ, List.getElem_cons_zero, List.setIfInBounds_toArray, List.set_cons_zero, List.set_cons_succ]
            have hK8 := hKs.turnH hLie j _ ht8 hh8
            refine wpAnyH_done (by kernel_rfl) ?_ _
            refine NoPanic.normal ?_
            go_wp2_with fail
            go_roundw
            case rel => exact ⟨k + 1, by omega, by go_num, by rw [HV.out]; exact hK8⟩
            case measure => simp [intOf]; omega
          · obtain rfl : P = k := by omega
            go_wp2
            go_roundw
            case rel => exact ⟨b + 1, q, lq, cq, by omega, by go_num, rfl, by rw [HT'.out]; exact hKs⟩
            case measure => simp [intOf]; omega
    · obtain rfl : L = b := by omega
      have hlq : lq ≤ 256 := by omega
      have z0 := hT.tab.cell' (i := 0) rfl; have z1 := hT.tab.cell' (i := 1) rfl; have z2 := hT.tab.cell' (i := 2) rfl; have z3 := hT.tab.cell' (i := 3) rfl; have z4 := hT.tab.cell' (i := 4) rfl; have z5 := hT.tab.cell' (i := 5) rfl; have z6 := hT.tab.cell' (i := 6) rfl; have z7 := hT.tab.cell' (i := 7) rfl; have z8 := hT.tab.cell' (i := 8) rfl
      go_wp2_with (guard_target = wpList _ _ _ (Oper.mk _ (Op.store 56 (Operand.tmp 8) _) _ _ _ _ :: _) _ _; refine wpList_store_blk rfl 56 (.tmp 8) (.tmp 85) rfl w.heap.size 0 (cells9 P L K n gd cd gh ch pl cl) rfl rfl hT.res (by exact Nat.le_refl _) (size9 _ _ _ _ _ _ _ _ _ _) (one9 _ _ _ _ _ _ _ _ _ _) ?_; intro W9 h9 ht9; rw [whole_row (by rfl)] at h9)
      exact ret_tab3 (V := ⟨some ⟨gd, 0, none⟩, L, cd, some ⟨gh, 0, none⟩, n, ch, pl, 0, cl⟩) (T := newT (P : Int) L K n) Try.results24 rfl h9 rfl rfl rfl (tabOut_of hT hLie ht9 hl1 (by omega) (by omega) (by omega) rfl)
end Go.Proofs.Ytfgelncfmopibaa
