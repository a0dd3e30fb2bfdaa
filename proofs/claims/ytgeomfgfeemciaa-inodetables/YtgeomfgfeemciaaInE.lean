/-
  What inode.Encode answers.
-/
import Derived.Test.YtgeomfgfeemciaaInJ
import Derived.Deep.Cut
namespace Go.Proofs.Ytgeomfgfeemciaa
open Go.RowKit
set_option linter.unusedSimpArgs false in
set_option linter.unusedVariables false in
set_option maxRecDepth 100000 in
set_option maxHeartbeats 8000000 in
theorem iencode_any (x : Ino) (p : Option Addr) (n c : Nat) (w : World) (hx : InE w p n c x.rt) : Calls Try.prog 8 #[x.val p n c] w fun e w' => ∃ p' n' c', e = .returned (.tuple #[.slice p' n' c', .int .i64 (inoE x)]) ∧ In w' p' n' c' (encL x) ∧ Below w.heap.size w w' ∧ ∀ a, p' = some a → w.heap.size ≤ a.block := by
  obtain ⟨kd, lk, sz, nx, ge, dp, rt⟩ := x
  obtain ⟨i0, hi, hz0, hz1, hz2⟩ := info_parts info5
  have hb0 := below_alloc w (.cells #[.int .i64 kd, .int .i64 lk, .int .i64 sz, .int .i64 nx, .int .i64 ge, .int .i64 dp, .slice p n c] 24)
  have hx1 := hx.below hb0
  have r0 := Blk.new' w 24 #[.int .i64 kd, .int .i64 lk, .int .i64 sz, .int .i64 nx, .int .i64 ge, .int .i64 dp, .slice p n c]
  dsimp only at hx1 hx
  cases hm : inoB ⟨kd, lk, sz, nx, ge, dp, rt⟩ with
  | false =>
    rw [inoE_no hm, encL_no hm]
    have HE : Hid (inoE ⟨kd, lk, sz, nx, ge, dp, rt⟩ = 140) := inoE_no hm
    clear hm
    go_enter Try.func8, Try.ntmps8
    go_wp2_with fail
    refine (icheck_any ⟨kd, lk, sz, nx, ge, dp, rt⟩ p n c _ hx1).mono ?_
    rintro e w1 ⟨rfl, hb1⟩
    rw [HE.out]
    go_wp2
    go_ret2
    exact ⟨_, _, _, rfl, In.empty _, bt hb0 hb1, fun a h => by cases h⟩
  | true =>
    have hfit := Fit.of hm
    have HL : Hid ((packL wsI (vsI ⟨kd, lk, sz, nx, ge, dp, rt⟩)).length = 60) := packI_len hm
    have HB : Hid (encL ⟨kd, lk, sz, nx, ge, dp, rt⟩ = packL wsI (vsI ⟨kd, lk, sz, nx, ge, dp, rt⟩) ++ List.replicate 4 0) := encL_ok hm
    have HY := encL_byte ⟨kd, lk, sz, nx, ge, dp, rt⟩
    have HL2 : Hid ((encL ⟨kd, lk, sz, nx, ge, dp, rt⟩).length = 64) := encL_len hm
    rw [inoE_ok hm]
    have HE : Hid (inoE ⟨kd, lk, sz, nx, ge, dp, rt⟩ = 0) := inoE_ok hm
    clear hm
    go_enter Try.func8, Try.ntmps8
    go_wp2_with fail
    refine (icheck_any ⟨kd, lk, sz, nx, ge, dp, rt⟩ p n c _ hx1).mono ?_
    rintro e w1 ⟨rfl, hb1⟩
    rw [HE.out]
    have r1 := r0.kept hb1
    have hbq := bt hb0 hb1
    clear hb1 hb0 r0 hx1
    go_upto_region 4 with fail
    go_cut [5, 6] from 10 (fun s5 s6 wc => ∃ g5 g6, s5 = .pointer (some ⟨g5, 0, none⟩) ∧ s6 = .pointer (some ⟨g6, 0, none⟩) ∧ Blk wc g5 52 (wsI.map (Value.int .i64)) ∧ Blk wc g6 55 (vals64 (vsI ⟨kd, lk, sz, nx, ge, dp, rt⟩)) ∧ Below w.heap.size w wc)
    case first =>
      generalize w1 = V at *
      refine wp_region_noPanic ?_
      refine wp_region_held_drew (S := (fun Y => Blk Y w.heap.size 24 [.int .i64 kd, .int .i64 lk, .int .i64 sz, .int .i64 nx, .int .i64 ge, .int .i64 dp, .slice p n c] ∧ Below w.heap.size w Y)) (by kernel_rfl) ⟨r1.drew, hbq.drew⟩ (fun hHeld => ?_)
      generalize V.drew = X0 at *
      refine wpAnyH_take (i := 1) (v := ?_) rfl (by kernel_rfl) (by kernel_rfl) (by kernel_rfl) (fun _ _ _ h => h) (Or.inl ⟨by rfl, ?_⟩) hHeld ?_
      rotate_left
      · intro w' hSw; try dsimp only at hSw
        have r2 := hSw.1
        have d0 := r2.cell' (i := 0) rfl
        have d1 := r2.cell' (i := 1) rfl
        have d2 := r2.cell' (i := 2) rfl
        have d3 := r2.cell' (i := 3) rfl
        have d4 := r2.cell' (i := 4) rfl
        have d5 := r2.cell' (i := 5) rfl
        have d6 := r2.cell' (i := 6) rfl
        go_simp; try (with_reducible rfl)
      try simp only [Act.put, List.getElem_toArray, List.getElem_cons_succ, List.getElem_cons_zero, List.setIfInBounds_toArray, List.set_cons_zero, List.set_cons_succ]
      refine wpAnyH_ready (rs := [0, 3, 4]) (by kernel_rfl) (by simp) ?_
      refine AllReadyH.cons rfl (fun K hK => ?_) ?_
      · go_simp
        refine (widths_any _).mono ?_
        rintro e X1 ⟨rfl, hk0⟩
        have hS0 := And.intro (hHeld.1.kept hk0) (bt hHeld.2 hk0)
        refine hK.out _ _ hS0 (fun hHeld => ?_)
        clear hK K
        try simp only [Act.put, List.getElem_toArray, List.getElem_cons_succ, List.getElem_cons_zero, List.setIfInBounds_toArray, List.set_cons_zero, List.set_cons_succ]
        refine wpAnyH_ready (rs := [2, 3, 4]) (by kernel_rfl) (by simp) ?_
        refine AllReadyH.cons rfl (fun K hK => ?_) ?_
        · go_simp
          refine (fields_any ⟨kd, lk, sz, nx, ge, dp, rt⟩ p n c _ (hx.below hHeld.2) hfit).mono ?_
          rintro e X2 ⟨rfl, hk1⟩
          have hS1 := And.intro (hHeld.1.kept hk1) (bt hHeld.2 hk1)
          refine hK.out _ _ hS1 (fun hHeld => ?_)
          clear hK K
          try simp only [Act.put, List.getElem_toArray, List.getElem_cons_succ, List.getElem_cons_zero, List.setIfInBounds_toArray, List.set_cons_zero, List.set_cons_succ]
          refine wpAnyH_ready (rs := [3, 4]) (by kernel_rfl) (by simp) ?_
          refine AllReadyH.cons rfl (fun K hK => ?_) ?_
          · go_simp
            have b3 := Blk.new' X2 52 #[.int .i64 0, .int .i64 0, .int .i64 0, .int .i64 0, .int .i64 0, .int .i64 0, .int .i64 0, .int .i64 0, .int .i64 0, .int .i64 0, .int .i64 0, .int .i64 0, .int .i64 0, .int .i64 0, .int .i64 0, .int .i64 0, .int .i64 0, .int .i64 0, .int .i64 0, .int .i64 0]
            have hk2 := below_alloc X2 (.cells #[.int .i64 0, .int .i64 0, .int .i64 0, .int .i64 0, .int .i64 0, .int .i64 0, .int .i64 0, .int .i64 0, .int .i64 0, .int .i64 0, .int .i64 0, .int .i64 0, .int .i64 0, .int .i64 0, .int .i64 0, .int .i64 0, .int .i64 0, .int .i64 0, .int .i64 0, .int .i64 0] 52)
            have hS2 := And.intro (hHeld.1.kept hk2) (bt hHeld.2 hk2)
            have hl3 := hHeld.1.lt
            have hw3 := hHeld.2.size
            clear hk2
            generalize X2.alloc (.cells #[.int .i64 0, .int .i64 0, .int .i64 0, .int .i64 0, .int .i64 0, .int .i64 0, .int .i64 0, .int .i64 0, .int .i64 0, .int .i64 0, .int .i64 0, .int .i64 0, .int .i64 0, .int .i64 0, .int .i64 0, .int .i64 0, .int .i64 0, .int .i64 0, .int .i64 0, .int .i64 0] 52) = X3 at *
            generalize hg3 : X2.heap.size = g3 at *
            clear hg3
            refine hK.out _ _ hS2 (fun hHeld => ?_)
            clear hK K
            try simp only [Act.put, List.getElem_toArray, List.getElem_cons_succ, List.getElem_cons_zero, List.setIfInBounds_toArray, List.set_cons_zero, List.set_cons_succ]
            refine wpAnyH_ready (rs := [4]) (by kernel_rfl) (by simp) ?_
            refine AllReadyH.cons rfl (fun K hK => ?_) AllReadyH.nil
            go_simp
            have b4 := Blk.new' X3 55 #[.int .u64 0, .int .u64 0, .int .u64 0, .int .u64 0, .int .u64 0, .int .u64 0, .int .u64 0, .int .u64 0, .int .u64 0, .int .u64 0, .int .u64 0, .int .u64 0, .int .u64 0, .int .u64 0, .int .u64 0, .int .u64 0, .int .u64 0, .int .u64 0, .int .u64 0, .int .u64 0]
            have hk3 := below_alloc X3 (.cells #[.int .u64 0, .int .u64 0, .int .u64 0, .int .u64 0, .int .u64 0, .int .u64 0, .int .u64 0, .int .u64 0, .int .u64 0, .int .u64 0, .int .u64 0, .int .u64 0, .int .u64 0, .int .u64 0, .int .u64 0, .int .u64 0, .int .u64 0, .int .u64 0, .int .u64 0, .int .u64 0] 55)
            have hS3 := And.intro (hHeld.1.kept hk3) (bt hHeld.2 hk3)
            have hl4 := hHeld.1.lt
            have hw4 := hHeld.2.size
            have hne := b3.lt
            have b3 := b3.kept hk3
            clear hk3
            generalize X3.alloc (.cells #[.int .u64 0, .int .u64 0, .int .u64 0, .int .u64 0, .int .u64 0, .int .u64 0, .int .u64 0, .int .u64 0, .int .u64 0, .int .u64 0, .int .u64 0, .int .u64 0, .int .u64 0, .int .u64 0, .int .u64 0, .int .u64 0, .int .u64 0, .int .u64 0, .int .u64 0, .int .u64 0] 55) = X4 at *
            generalize hg4 : X3.heap.size = g4 at *
            clear hg4
            refine hK.out _ _ hS3 (fun hHeld => ?_)
            clear hK K
            try simp only [Act.put, List.getElem_toArray, List.getElem_cons_succ, List.getElem_cons_zero, List.setIfInBounds_toArray, List.set_cons_zero, List.set_cons_succ]
            refine wpAnyH_ready (rs := [5]) (by kernel_rfl) (by simp) ?_
            refine AllReadyH.cons rfl (fun K hK => ?_) AllReadyH.nil
            refine wp_store_blk 52 (.tmp 5) (.tmp 15) rfl g3 0 (wsI.map (Value.int .i64)) rfl rfl b3 (by simp [wsI_len]) (size_arrI (by rw [List.length_map, wsI_len])) oneWs ?_
            intro X5 c3 t3
            rw [whole_row (by rw [List.length_map, wsI_len]; rfl)] at c3
            have b4 := b4.turned t3 (by omega)
            refine hK.out _ _ ⟨hHeld.1.turned t3 (by omega), t3.below hHeld.2 (by omega)⟩ (fun hHeld => ?_)
            clear hK K
            try simp only [Act.put, List.getElem_toArray, List.getElem_cons_succ, List.getElem_cons_zero, List.setIfInBounds_toArray, List.set_cons_zero, List.set_cons_succ]
            refine wpAnyH_ready (rs := [6]) (by kernel_rfl) (by simp) ?_
            refine AllReadyH.cons rfl (fun K hK => ?_) AllReadyH.nil
            refine wp_store_blk 55 (.tmp 6) (.tmp 17) rfl g4 0 (vals64 (vsI ⟨kd, lk, sz, nx, ge, dp, rt⟩)) rfl rfl b4 (by simp [vals64_length, vsI_len]) (size_arrU (by rw [vals64_length, vsI_len])) (vals64_one _) ?_
            intro X6 c4 t4
            rw [whole_row (by rw [vals64_length, vsI_len]; rfl)] at c4
            have c3 := c3.turned t4 (by omega)
            refine hK.out _ _ ⟨hHeld.1.turned t4 (by omega), t4.below hHeld.2 (by omega)⟩ (fun hHeld => ?_)
            clear hK K
            try simp only [Act.put, List.getElem_toArray, List.getElem_cons_succ, List.getElem_cons_zero, List.setIfInBounds_toArray, List.set_cons_zero, List.set_cons_succ]
            refine wpAnyH_done (by kernel_rfl) ?_ _
            refine NoPanic.normal ?_
            go_wp2_with fail
            go_meet
            case rel => exact ⟨g3, g4, rfl, rfl, c3, c4, hHeld.2⟩
          refine AllReadyH.cons rfl (fun K hK => ?_) AllReadyH.nil
          go_simp
          have b4 := Blk.new' X2 55 #[.int .u64 0, .int .u64 0, .int .u64 0, .int .u64 0, .int .u64 0, .int .u64 0, .int .u64 0, .int .u64 0, .int .u64 0, .int .u64 0, .int .u64 0, .int .u64 0, .int .u64 0, .int .u64 0, .int .u64 0, .int .u64 0, .int .u64 0, .int .u64 0, .int .u64 0, .int .u64 0]
          have hk2 := below_alloc X2 (.cells #[.int .u64 0, .int .u64 0, .int .u64 0, .int .u64 0, .int .u64 0, .int .u64 0, .int .u64 0, .int .u64 0, .int .u64 0, .int .u64 0, .int .u64 0, .int .u64 0, .int .u64 0, .int .u64 0, .int .u64 0, .int .u64 0, .int .u64 0, .int .u64 0, .int .u64 0, .int .u64 0] 55)
          have hS2 := And.intro (hHeld.1.kept hk2) (bt hHeld.2 hk2)
          have hl4 := hHeld.1.lt
          have hw4 := hHeld.2.size
          clear hk2
          generalize X2.alloc (.cells #[.int .u64 0, .int .u64 0, .int .u64 0, .int .u64 0, .int .u64 0, .int .u64 0, .int .u64 0, .int .u64 0, .int .u64 0, .int .u64 0, .int .u64 0, .int .u64 0, .int .u64 0, .int .u64 0, .int .u64 0, .int .u64 0, .int .u64 0, .int .u64 0, .int .u64 0, .int .u64 0] 55) = X3 at *
          generalize hg4 : X2.heap.size = g4 at *
          clear hg4
          refine hK.out _ _ hS2 (fun hHeld => ?_)
          clear hK K
          try simp only [Act.put, List.getElem_toArray, List.getElem_cons_succ, List.getElem_cons_zero, List.setIfInBounds_toArray, List.set_cons_zero, List.set_cons_succ]
          refine wpAnyH_ready (rs := [3]) (by kernel_rfl) (by simp) ?_
          refine AllReadyH.cons rfl (fun K hK => ?_) AllReadyH.nil
          go_simp
          have b3 := Blk.new' X3 52 #[.int .i64 0, .int .i64 0, .int .i64 0, .int .i64 0, .int .i64 0, .int .i64 0, .int .i64 0, .int .i64 0, .int .i64 0, .int .i64 0, .int .i64 0, .int .i64 0, .int .i64 0, .int .i64 0, .int .i64 0, .int .i64 0, .int .i64 0, .int .i64 0, .int .i64 0, .int .i64 0]
          have hk3 := below_alloc X3 (.cells #[.int .i64 0, .int .i64 0, .int .i64 0, .int .i64 0, .int .i64 0, .int .i64 0, .int .i64 0, .int .i64 0, .int .i64 0, .int .i64 0, .int .i64 0, .int .i64 0, .int .i64 0, .int .i64 0, .int .i64 0, .int .i64 0, .int .i64 0, .int .i64 0, .int .i64 0, .int .i64 0] 52)
          have hS3 := And.intro (hHeld.1.kept hk3) (bt hHeld.2 hk3)
          have hl3 := hHeld.1.lt
          have hw3 := hHeld.2.size
          have hne := b4.lt
          have b4 := b4.kept hk3
          clear hk3
          generalize X3.alloc (.cells #[.int .i64 0, .int .i64 0, .int .i64 0, .int .i64 0, .int .i64 0, .int .i64 0, .int .i64 0, .int .i64 0, .int .i64 0, .int .i64 0, .int .i64 0, .int .i64 0, .int .i64 0, .int .i64 0, .int .i64 0, .int .i64 0, .int .i64 0, .int .i64 0, .int .i64 0, .int .i64 0] 52) = X4 at *
          generalize hg3 : X3.heap.size = g3 at *
          clear hg3
          refine hK.out _ _ hS3 (fun hHeld => ?_)
          clear hK K
          try simp only [Act.put, List.getElem_toArray, List.getElem_cons_succ, List.getElem_cons_zero, List.setIfInBounds_toArray, List.set_cons_zero, List.set_cons_succ]
          refine wpAnyH_ready (rs := [5]) (by kernel_rfl) (by simp) ?_
          refine AllReadyH.cons rfl (fun K hK => ?_) AllReadyH.nil
          refine wp_store_blk 52 (.tmp 5) (.tmp 15) rfl g3 0 (wsI.map (Value.int .i64)) rfl rfl b3 (by simp [wsI_len]) (size_arrI (by rw [List.length_map, wsI_len])) oneWs ?_
          intro X5 c3 t3
          rw [whole_row (by rw [List.length_map, wsI_len]; rfl)] at c3
          have b4 := b4.turned t3 (by omega)
          refine hK.out _ _ ⟨hHeld.1.turned t3 (by omega), t3.below hHeld.2 (by omega)⟩ (fun hHeld => ?_)
          clear hK K
          try simp only [Act.put, List.getElem_toArray, List.getElem_cons_succ, List.getElem_cons_zero, List.setIfInBounds_toArray, List.set_cons_zero, List.set_cons_succ]
          refine wpAnyH_ready (rs := [6]) (by kernel_rfl) (by simp) ?_
          refine AllReadyH.cons rfl (fun K hK => ?_) AllReadyH.nil
          refine wp_store_blk 55 (.tmp 6) (.tmp 17) rfl g4 0 (vals64 (vsI ⟨kd, lk, sz, nx, ge, dp, rt⟩)) rfl rfl b4 (by simp [vals64_length, vsI_len]) (size_arrU (by rw [vals64_length, vsI_len])) (vals64_one _) ?_
          intro X6 c4 t4
          rw [whole_row (by rw [vals64_length, vsI_len]; rfl)] at c4
          have c3 := c3.turned t4 (by omega)
          refine hK.out _ _ ⟨hHeld.1.turned t4 (by omega), t4.below hHeld.2 (by omega)⟩ (fun hHeld => ?_)
          clear hK K
          try simp only [Act.put, List.getElem_toArray, List.getElem_cons_succ, List.getElem_cons_zero, List.setIfInBounds_toArray, List.set_cons_zero, List.set_cons_succ]
          refine wpAnyH_done (by kernel_rfl) ?_ _
          refine NoPanic.normal ?_
          go_wp2_with fail
          go_meet
          case rel => exact ⟨g3, g4, rfl, rfl, c3, c4, hHeld.2⟩
        refine AllReadyH.cons rfl (fun K hK => ?_) ?_
        · go_simp
          have b3 := Blk.new' X1 52 #[.int .i64 0, .int .i64 0, .int .i64 0, .int .i64 0, .int .i64 0, .int .i64 0, .int .i64 0, .int .i64 0, .int .i64 0, .int .i64 0, .int .i64 0, .int .i64 0, .int .i64 0, .int .i64 0, .int .i64 0, .int .i64 0, .int .i64 0, .int .i64 0, .int .i64 0, .int .i64 0]
          have hk1 := below_alloc X1 (.cells #[.int .i64 0, .int .i64 0, .int .i64 0, .int .i64 0, .int .i64 0, .int .i64 0, .int .i64 0, .int .i64 0, .int .i64 0, .int .i64 0, .int .i64 0, .int .i64 0, .int .i64 0, .int .i64 0, .int .i64 0, .int .i64 0, .int .i64 0, .int .i64 0, .int .i64 0, .int .i64 0] 52)
          have hS1 := And.intro (hHeld.1.kept hk1) (bt hHeld.2 hk1)
          have hl3 := hHeld.1.lt
          have hw3 := hHeld.2.size
          clear hk1
          generalize X1.alloc (.cells #[.int .i64 0, .int .i64 0, .int .i64 0, .int .i64 0, .int .i64 0, .int .i64 0, .int .i64 0, .int .i64 0, .int .i64 0, .int .i64 0, .int .i64 0, .int .i64 0, .int .i64 0, .int .i64 0, .int .i64 0, .int .i64 0, .int .i64 0, .int .i64 0, .int .i64 0, .int .i64 0] 52) = X2 at *
          generalize hg3 : X1.heap.size = g3 at *
          clear hg3
          refine hK.out _ _ hS1 (fun hHeld => ?_)
          clear hK K
          try simp only [Act.put, List.getElem_toArray, List.getElem_cons_succ, List.getElem_cons_zero, List.setIfInBounds_toArray, List.set_cons_zero, List.set_cons_succ]
          refine wpAnyH_ready (rs := [2, 4]) (by kernel_rfl) (by simp) ?_
          refine AllReadyH.cons rfl (fun K hK => ?_) ?_
          · go_simp
            refine (fields_any ⟨kd, lk, sz, nx, ge, dp, rt⟩ p n c _ (hx.below hHeld.2) hfit).mono ?_
            rintro e X3 ⟨rfl, hk2⟩
            have hS2 := And.intro (hHeld.1.kept hk2) (bt hHeld.2 hk2)
            have b3 := b3.kept hk2
            refine hK.out _ _ hS2 (fun hHeld => ?_)
            clear hK K
            try simp only [Act.put, List.getElem_toArray, List.getElem_cons_succ, List.getElem_cons_zero, List.setIfInBounds_toArray, List.set_cons_zero, List.set_cons_succ]
            refine wpAnyH_ready (rs := [4]) (by kernel_rfl) (by simp) ?_
            refine AllReadyH.cons rfl (fun K hK => ?_) AllReadyH.nil
            go_simp
            have b4 := Blk.new' X3 55 #[.int .u64 0, .int .u64 0, .int .u64 0, .int .u64 0, .int .u64 0, .int .u64 0, .int .u64 0, .int .u64 0, .int .u64 0, .int .u64 0, .int .u64 0, .int .u64 0, .int .u64 0, .int .u64 0, .int .u64 0, .int .u64 0, .int .u64 0, .int .u64 0, .int .u64 0, .int .u64 0]
            have hk3 := below_alloc X3 (.cells #[.int .u64 0, .int .u64 0, .int .u64 0, .int .u64 0, .int .u64 0, .int .u64 0, .int .u64 0, .int .u64 0, .int .u64 0, .int .u64 0, .int .u64 0, .int .u64 0, .int .u64 0, .int .u64 0, .int .u64 0, .int .u64 0, .int .u64 0, .int .u64 0, .int .u64 0, .int .u64 0] 55)
            have hS3 := And.intro (hHeld.1.kept hk3) (bt hHeld.2 hk3)
            have hl4 := hHeld.1.lt
            have hw4 := hHeld.2.size
            have hne := b3.lt
            have b3 := b3.kept hk3
            clear hk3
            generalize X3.alloc (.cells #[.int .u64 0, .int .u64 0, .int .u64 0, .int .u64 0, .int .u64 0, .int .u64 0, .int .u64 0, .int .u64 0, .int .u64 0, .int .u64 0, .int .u64 0, .int .u64 0, .int .u64 0, .int .u64 0, .int .u64 0, .int .u64 0, .int .u64 0, .int .u64 0, .int .u64 0, .int .u64 0] 55) = X4 at *
            generalize hg4 : X3.heap.size = g4 at *
            clear hg4
            refine hK.out _ _ hS3 (fun hHeld => ?_)
            clear hK K
            try simp only [Act.put, List.getElem_toArray, List.getElem_cons_succ, List.getElem_cons_zero, List.setIfInBounds_toArray, List.set_cons_zero, List.set_cons_succ]
            refine wpAnyH_ready (rs := [5]) (by kernel_rfl) (by simp) ?_
            refine AllReadyH.cons rfl (fun K hK => ?_) AllReadyH.nil
            refine wp_store_blk 52 (.tmp 5) (.tmp 15) rfl g3 0 (wsI.map (Value.int .i64)) rfl rfl b3 (by simp [wsI_len]) (size_arrI (by rw [List.length_map, wsI_len])) oneWs ?_
            intro X5 c3 t3
            rw [whole_row (by rw [List.length_map, wsI_len]; rfl)] at c3
            have b4 := b4.turned t3 (by omega)
            refine hK.out _ _ ⟨hHeld.1.turned t3 (by omega), t3.below hHeld.2 (by omega)⟩ (fun hHeld => ?_)
            clear hK K
            try simp only [Act.put, List.getElem_toArray, List.getElem_cons_succ, List.getElem_cons_zero, List.setIfInBounds_toArray, List.set_cons_zero, List.set_cons_succ]
            refine wpAnyH_ready (rs := [6]) (by kernel_rfl) (by simp) ?_
            refine AllReadyH.cons rfl (fun K hK => ?_) AllReadyH.nil
            refine wp_store_blk 55 (.tmp 6) (.tmp 17) rfl g4 0 (vals64 (vsI ⟨kd, lk, sz, nx, ge, dp, rt⟩)) rfl rfl b4 (by simp [vals64_length, vsI_len]) (size_arrU (by rw [vals64_length, vsI_len])) (vals64_one _) ?_
            intro X6 c4 t4
            rw [whole_row (by rw [vals64_length, vsI_len]; rfl)] at c4
            have c3 := c3.turned t4 (by omega)
            refine hK.out _ _ ⟨hHeld.1.turned t4 (by omega), t4.below hHeld.2 (by omega)⟩ (fun hHeld => ?_)
            clear hK K
            try simp only [Act.put, List.getElem_toArray, List.getElem_cons_succ, List.getElem_cons_zero, List.setIfInBounds_toArray, List.set_cons_zero, List.set_cons_succ]
            refine wpAnyH_done (by kernel_rfl) ?_ _
            refine NoPanic.normal ?_
            go_wp2_with fail
            go_meet
            case rel => exact ⟨g3, g4, rfl, rfl, c3, c4, hHeld.2⟩
          refine AllReadyH.cons rfl (fun K hK => ?_) AllReadyH.nil
          go_simp
          have b4 := Blk.new' X2 55 #[.int .u64 0, .int .u64 0, .int .u64 0, .int .u64 0, .int .u64 0, .int .u64 0, .int .u64 0, .int .u64 0, .int .u64 0, .int .u64 0, .int .u64 0, .int .u64 0, .int .u64 0, .int .u64 0, .int .u64 0, .int .u64 0, .int .u64 0, .int .u64 0, .int .u64 0, .int .u64 0]
          have hk2 := below_alloc X2 (.cells #[.int .u64 0, .int .u64 0, .int .u64 0, .int .u64 0, .int .u64 0, .int .u64 0, .int .u64 0, .int .u64 0, .int .u64 0, .int .u64 0, .int .u64 0, .int .u64 0, .int .u64 0, .int .u64 0, .int .u64 0, .int .u64 0, .int .u64 0, .int .u64 0, .int .u64 0, .int .u64 0] 55)
          have hS2 := And.intro (hHeld.1.kept hk2) (bt hHeld.2 hk2)
          have hl4 := hHeld.1.lt
          have hw4 := hHeld.2.size
          have hne := b3.lt
          have b3 := b3.kept hk2
          clear hk2
          generalize X2.alloc (.cells #[.int .u64 0, .int .u64 0, .int .u64 0, .int .u64 0, .int .u64 0, .int .u64 0, .int .u64 0, .int .u64 0, .int .u64 0, .int .u64 0, .int .u64 0, .int .u64 0, .int .u64 0, .int .u64 0, .int .u64 0, .int .u64 0, .int .u64 0, .int .u64 0, .int .u64 0, .int .u64 0] 55) = X3 at *
          generalize hg4 : X2.heap.size = g4 at *
          clear hg4
          refine hK.out _ _ hS2 (fun hHeld => ?_)
          clear hK K
          try simp only [Act.put, List.getElem_toArray, List.getElem_cons_succ, List.getElem_cons_zero, List.setIfInBounds_toArray, List.set_cons_zero, List.set_cons_succ]
          refine wpAnyH_ready (rs := [2]) (by kernel_rfl) (by simp) ?_
          refine AllReadyH.cons rfl (fun K hK => ?_) AllReadyH.nil
          go_simp
          refine (fields_any ⟨kd, lk, sz, nx, ge, dp, rt⟩ p n c _ (hx.below hHeld.2) hfit).mono ?_
          rintro e X4 ⟨rfl, hk3⟩
          have hS3 := And.intro (hHeld.1.kept hk3) (bt hHeld.2 hk3)
          have b3 := b3.kept hk3
          have b4 := b4.kept hk3
          refine hK.out _ _ hS3 (fun hHeld => ?_)
          clear hK K
          try simp only [Act.put, List.getElem_toArray, List.getElem_cons_succ, List.getElem_cons_zero, List.setIfInBounds_toArray, List.set_cons_zero, List.set_cons_succ]
          refine wpAnyH_ready (rs := [5]) (by kernel_rfl) (by simp) ?_
          refine AllReadyH.cons rfl (fun K hK => ?_) AllReadyH.nil
          refine wp_store_blk 52 (.tmp 5) (.tmp 15) rfl g3 0 (wsI.map (Value.int .i64)) rfl rfl b3 (by simp [wsI_len]) (size_arrI (by rw [List.length_map, wsI_len])) oneWs ?_
          intro X5 c3 t3
          rw [whole_row (by rw [List.length_map, wsI_len]; rfl)] at c3
          have b4 := b4.turned t3 (by omega)
          refine hK.out _ _ ⟨hHeld.1.turned t3 (by omega), t3.below hHeld.2 (by omega)⟩ (fun hHeld => ?_)
          clear hK K
          try simp only [Act.put, List.getElem_toArray, List.getElem_cons_succ, List.getElem_cons_zero, List.setIfInBounds_toArray, List.set_cons_zero, List.set_cons_succ]
          refine wpAnyH_ready (rs := [6]) (by kernel_rfl) (by simp) ?_
          refine AllReadyH.cons rfl (fun K hK => ?_) AllReadyH.nil
          refine wp_store_blk 55 (.tmp 6) (.tmp 17) rfl g4 0 (vals64 (vsI ⟨kd, lk, sz, nx, ge, dp, rt⟩)) rfl rfl b4 (by simp [vals64_length, vsI_len]) (size_arrU (by rw [vals64_length, vsI_len])) (vals64_one _) ?_
          intro X6 c4 t4
          rw [whole_row (by rw [vals64_length, vsI_len]; rfl)] at c4
          have c3 := c3.turned t4 (by omega)
          refine hK.out _ _ ⟨hHeld.1.turned t4 (by omega), t4.below hHeld.2 (by omega)⟩ (fun hHeld => ?_)
          clear hK K
          try simp only [Act.put, List.getElem_toArray, List.getElem_cons_succ, List.getElem_cons_zero, List.setIfInBounds_toArray, List.set_cons_zero, List.set_cons_succ]
          refine wpAnyH_done (by kernel_rfl) ?_ _
          refine NoPanic.normal ?_
          go_wp2_with fail
          go_meet
          case rel => exact ⟨g3, g4, rfl, rfl, c3, c4, hHeld.2⟩
        refine AllReadyH.cons rfl (fun K hK => ?_) AllReadyH.nil
        go_simp
        have b4 := Blk.new' X1 55 #[.int .u64 0, .int .u64 0, .int .u64 0, .int .u64 0, .int .u64 0, .int .u64 0, .int .u64 0, .int .u64 0, .int .u64 0, .int .u64 0, .int .u64 0, .int .u64 0, .int .u64 0, .int .u64 0, .int .u64 0, .int .u64 0, .int .u64 0, .int .u64 0, .int .u64 0, .int .u64 0]
        have hk1 := below_alloc X1 (.cells #[.int .u64 0, .int .u64 0, .int .u64 0, .int .u64 0, .int .u64 0, .int .u64 0, .int .u64 0, .int .u64 0, .int .u64 0, .int .u64 0, .int .u64 0, .int .u64 0, .int .u64 0, .int .u64 0, .int .u64 0, .int .u64 0, .int .u64 0, .int .u64 0, .int .u64 0, .int .u64 0] 55)
        have hS1 := And.intro (hHeld.1.kept hk1) (bt hHeld.2 hk1)
        have hl4 := hHeld.1.lt
        have hw4 := hHeld.2.size
        clear hk1
        generalize X1.alloc (.cells #[.int .u64 0, .int .u64 0, .int .u64 0, .int .u64 0, .int .u64 0, .int .u64 0, .int .u64 0, .int .u64 0, .int .u64 0, .int .u64 0, .int .u64 0, .int .u64 0, .int .u64 0, .int .u64 0, .int .u64 0, .int .u64 0, .int .u64 0, .int .u64 0, .int .u64 0, .int .u64 0] 55) = X2 at *
        generalize hg4 : X1.heap.size = g4 at *
        clear hg4
        refine hK.out _ _ hS1 (fun hHeld => ?_)
        clear hK K
        try simp only [Act.put, List.getElem_toArray, List.getElem_cons_succ, List.getElem_cons_zero, List.setIfInBounds_toArray, List.set_cons_zero, List.set_cons_succ]
        refine wpAnyH_ready (rs := [2, 3]) (by kernel_rfl) (by simp) ?_
        refine AllReadyH.cons rfl (fun K hK => ?_) ?_
        · go_simp
          refine (fields_any ⟨kd, lk, sz, nx, ge, dp, rt⟩ p n c _ (hx.below hHeld.2) hfit).mono ?_
          rintro e X3 ⟨rfl, hk2⟩
          have hS2 := And.intro (hHeld.1.kept hk2) (bt hHeld.2 hk2)
          have b4 := b4.kept hk2
          refine hK.out _ _ hS2 (fun hHeld => ?_)
          clear hK K
          try simp only [Act.put, List.getElem_toArray, List.getElem_cons_succ, List.getElem_cons_zero, List.setIfInBounds_toArray, List.set_cons_zero, List.set_cons_succ]
          refine wpAnyH_ready (rs := [3]) (by kernel_rfl) (by simp) ?_
          refine AllReadyH.cons rfl (fun K hK => ?_) AllReadyH.nil
          go_simp
          have b3 := Blk.new' X3 52 #[.int .i64 0, .int .i64 0, .int .i64 0, .int .i64 0, .int .i64 0, .int .i64 0, .int .i64 0, .int .i64 0, .int .i64 0, .int .i64 0, .int .i64 0, .int .i64 0, .int .i64 0, .int .i64 0, .int .i64 0, .int .i64 0, .int .i64 0, .int .i64 0, .int .i64 0, .int .i64 0]
          have hk3 := below_alloc X3 (.cells #[.int .i64 0, .int .i64 0, .int .i64 0, .int .i64 0, .int .i64 0, .int .i64 0, .int .i64 0, .int .i64 0, .int .i64 0, .int .i64 0, .int .i64 0, .int .i64 0, .int .i64 0, .int .i64 0, .int .i64 0, .int .i64 0, .int .i64 0, .int .i64 0, .int .i64 0, .int .i64 0] 52)
          have hS3 := And.intro (hHeld.1.kept hk3) (bt hHeld.2 hk3)
          have hl3 := hHeld.1.lt
          have hw3 := hHeld.2.size
          have hne := b4.lt
          have b4 := b4.kept hk3
          clear hk3
          generalize X3.alloc (.cells #[.int .i64 0, .int .i64 0, .int .i64 0, .int .i64 0, .int .i64 0, .int .i64 0, .int .i64 0, .int .i64 0, .int .i64 0, .int .i64 0, .int .i64 0, .int .i64 0, .int .i64 0, .int .i64 0, .int .i64 0, .int .i64 0, .int .i64 0, .int .i64 0, .int .i64 0, .int .i64 0] 52) = X4 at *
          generalize hg3 : X3.heap.size = g3 at *
          clear hg3
          refine hK.out _ _ hS3 (fun hHeld => ?_)
          clear hK K
          try simp only [Act.put, List.getElem_toArray, List.getElem_cons_succ, List.getElem_cons_zero, List.setIfInBounds_toArray, List.set_cons_zero, List.set_cons_succ]
          refine wpAnyH_ready (rs := [5]) (by kernel_rfl) (by simp) ?_
          refine AllReadyH.cons rfl (fun K hK => ?_) AllReadyH.nil
          refine wp_store_blk 52 (.tmp 5) (.tmp 15) rfl g3 0 (wsI.map (Value.int .i64)) rfl rfl b3 (by simp [wsI_len]) (size_arrI (by rw [List.length_map, wsI_len])) oneWs ?_
          intro X5 c3 t3
          rw [whole_row (by rw [List.length_map, wsI_len]; rfl)] at c3
          have b4 := b4.turned t3 (by omega)
          refine hK.out _ _ ⟨hHeld.1.turned t3 (by omega), t3.below hHeld.2 (by omega)⟩ (fun hHeld => ?_)
          clear hK K
          try simp only [Act.put, List.getElem_toArray, List.getElem_cons_succ, List.getElem_cons_zero, List.setIfInBounds_toArray, List.set_cons_zero, List.set_cons_succ]
          refine wpAnyH_ready (rs := [6]) (by kernel_rfl) (by simp) ?_
          refine AllReadyH.cons rfl (fun K hK => ?_) AllReadyH.nil
          refine wp_store_blk 55 (.tmp 6) (.tmp 17) rfl g4 0 (vals64 (vsI ⟨kd, lk, sz, nx, ge, dp, rt⟩)) rfl rfl b4 (by simp [vals64_length, vsI_len]) (size_arrU (by rw [vals64_length, vsI_len])) (vals64_one _) ?_
          intro X6 c4 t4
          rw [whole_row (by rw [vals64_length, vsI_len]; rfl)] at c4
          have c3 := c3.turned t4 (by omega)
          refine hK.out _ _ ⟨hHeld.1.turned t4 (by omega), t4.below hHeld.2 (by omega)⟩ (fun hHeld => ?_)
          clear hK K
          try simp only [Act.put, List.getElem_toArray, List.getElem_cons_succ, List.getElem_cons_zero, List.setIfInBounds_toArray, List.set_cons_zero, List.set_cons_succ]
          refine wpAnyH_done (by kernel_rfl) ?_ _
          refine NoPanic.normal ?_
          go_wp2_with fail
          go_meet
          case rel => exact ⟨g3, g4, rfl, rfl, c3, c4, hHeld.2⟩
        refine AllReadyH.cons rfl (fun K hK => ?_) AllReadyH.nil
        go_simp
        have b3 := Blk.new' X2 52 #[.int .i64 0, .int .i64 0, .int .i64 0, .int .i64 0, .int .i64 0, .int .i64 0, .int .i64 0, .int .i64 0, .int .i64 0, .int .i64 0, .int .i64 0, .int .i64 0, .int .i64 0, .int .i64 0, .int .i64 0, .int .i64 0, .int .i64 0, .int .i64 0, .int .i64 0, .int .i64 0]
        have hk2 := below_alloc X2 (.cells #[.int .i64 0, .int .i64 0, .int .i64 0, .int .i64 0, .int .i64 0, .int .i64 0, .int .i64 0, .int .i64 0, .int .i64 0, .int .i64 0, .int .i64 0, .int .i64 0, .int .i64 0, .int .i64 0, .int .i64 0, .int .i64 0, .int .i64 0, .int .i64 0, .int .i64 0, .int .i64 0] 52)
        have hS2 := And.intro (hHeld.1.kept hk2) (bt hHeld.2 hk2)
        have hl3 := hHeld.1.lt
        have hw3 := hHeld.2.size
        have hne := b4.lt
        have b4 := b4.kept hk2
        clear hk2
        generalize X2.alloc (.cells #[.int .i64 0, .int .i64 0, .int .i64 0, .int .i64 0, .int .i64 0, .int .i64 0, .int .i64 0, .int .i64 0, .int .i64 0, .int .i64 0, .int .i64 0, .int .i64 0, .int .i64 0, .int .i64 0, .int .i64 0, .int .i64 0, .int .i64 0, .int .i64 0, .int .i64 0, .int .i64 0] 52) = X3 at *
        generalize hg3 : X2.heap.size = g3 at *
        clear hg3
        refine hK.out _ _ hS2 (fun hHeld => ?_)
        clear hK K
        try simp only [Act.put, List.getElem_toArray, List.getElem_cons_succ, List.getElem_cons_zero, List.setIfInBounds_toArray, List.set_cons_zero, List.set_cons_succ]
        refine wpAnyH_ready (rs := [2]) (by kernel_rfl) (by simp) ?_
        refine AllReadyH.cons rfl (fun K hK => ?_) AllReadyH.nil
        go_simp
        refine (fields_any ⟨kd, lk, sz, nx, ge, dp, rt⟩ p n c _ (hx.below hHeld.2) hfit).mono ?_
        rintro e X4 ⟨rfl, hk3⟩
        have hS3 := And.intro (hHeld.1.kept hk3) (bt hHeld.2 hk3)
        have b3 := b3.kept hk3
        have b4 := b4.kept hk3
        refine hK.out _ _ hS3 (fun hHeld => ?_)
        clear hK K
        try simp only [Act.put, List.getElem_toArray, List.getElem_cons_succ, List.getElem_cons_zero, List.setIfInBounds_toArray, List.set_cons_zero, List.set_cons_succ]
        refine wpAnyH_ready (rs := [5]) (by kernel_rfl) (by simp) ?_
        refine AllReadyH.cons rfl (fun K hK => ?_) AllReadyH.nil
        refine wp_store_blk 52 (.tmp 5) (.tmp 15) rfl g3 0 (wsI.map (Value.int .i64)) rfl rfl b3 (by simp [wsI_len]) (size_arrI (by rw [List.length_map, wsI_len])) oneWs ?_
        intro X5 c3 t3
        rw [whole_row (by rw [List.length_map, wsI_len]; rfl)] at c3
        have b4 := b4.turned t3 (by omega)
        refine hK.out _ _ ⟨hHeld.1.turned t3 (by omega), t3.below hHeld.2 (by omega)⟩ (fun hHeld => ?_)
        clear hK K
        try simp only [Act.put, List.getElem_toArray, List.getElem_cons_succ, List.getElem_cons_zero, List.setIfInBounds_toArray, List.set_cons_zero, List.set_cons_succ]
        refine wpAnyH_ready (rs := [6]) (by kernel_rfl) (by simp) ?_
        refine AllReadyH.cons rfl (fun K hK => ?_) AllReadyH.nil
        refine wp_store_blk 55 (.tmp 6) (.tmp 17) rfl g4 0 (vals64 (vsI ⟨kd, lk, sz, nx, ge, dp, rt⟩)) rfl rfl b4 (by simp [vals64_length, vsI_len]) (size_arrU (by rw [vals64_length, vsI_len])) (vals64_one _) ?_
        intro X6 c4 t4
        rw [whole_row (by rw [vals64_length, vsI_len]; rfl)] at c4
        have c3 := c3.turned t4 (by omega)
        refine hK.out _ _ ⟨hHeld.1.turned t4 (by omega), t4.below hHeld.2 (by omega)⟩ (fun hHeld => ?_)
        clear hK K
        try simp only [Act.put, List.getElem_toArray, List.getElem_cons_succ, List.getElem_cons_zero, List.setIfInBounds_toArray, List.set_cons_zero, List.set_cons_succ]
        refine wpAnyH_done (by kernel_rfl) ?_ _
        refine NoPanic.normal ?_
        go_wp2_with fail
        go_meet
        case rel => exact ⟨g3, g4, rfl, rfl, c3, c4, hHeld.2⟩
      refine AllReadyH.cons rfl (fun K hK => ?_) ?_
      · go_simp
        have b3 := Blk.new' X0 52 #[.int .i64 0, .int .i64 0, .int .i64 0, .int .i64 0, .int .i64 0, .int .i64 0, .int .i64 0, .int .i64 0, .int .i64 0, .int .i64 0, .int .i64 0, .int .i64 0, .int .i64 0, .int .i64 0, .int .i64 0, .int .i64 0, .int .i64 0, .int .i64 0, .int .i64 0, .int .i64 0]
        have hk0 := below_alloc X0 (.cells #[.int .i64 0, .int .i64 0, .int .i64 0, .int .i64 0, .int .i64 0, .int .i64 0, .int .i64 0, .int .i64 0, .int .i64 0, .int .i64 0, .int .i64 0, .int .i64 0, .int .i64 0, .int .i64 0, .int .i64 0, .int .i64 0, .int .i64 0, .int .i64 0, .int .i64 0, .int .i64 0] 52)
        have hS0 := And.intro (hHeld.1.kept hk0) (bt hHeld.2 hk0)
        have hl3 := hHeld.1.lt
        have hw3 := hHeld.2.size
        clear hk0
        generalize X0.alloc (.cells #[.int .i64 0, .int .i64 0, .int .i64 0, .int .i64 0, .int .i64 0, .int .i64 0, .int .i64 0, .int .i64 0, .int .i64 0, .int .i64 0, .int .i64 0, .int .i64 0, .int .i64 0, .int .i64 0, .int .i64 0, .int .i64 0, .int .i64 0, .int .i64 0, .int .i64 0, .int .i64 0] 52) = X1 at *
        generalize hg3 : X0.heap.size = g3 at *
        clear hg3
        refine hK.out _ _ hS0 (fun hHeld => ?_)
        clear hK K
        try simp only [Act.put, List.getElem_toArray, List.getElem_cons_succ, List.getElem_cons_zero, List.setIfInBounds_toArray, List.set_cons_zero, List.set_cons_succ]
        refine wpAnyH_ready (rs := [0, 4]) (by kernel_rfl) (by simp) ?_
        refine AllReadyH.cons rfl (fun K hK => ?_) ?_
        · go_simp
          refine (widths_any _).mono ?_
          rintro e X2 ⟨rfl, hk1⟩
          have hS1 := And.intro (hHeld.1.kept hk1) (bt hHeld.2 hk1)
          have b3 := b3.kept hk1
          refine hK.out _ _ hS1 (fun hHeld => ?_)
          clear hK K
          try simp only [Act.put, List.getElem_toArray, List.getElem_cons_succ, List.getElem_cons_zero, List.setIfInBounds_toArray, List.set_cons_zero, List.set_cons_succ]
          refine wpAnyH_ready (rs := [2, 4]) (by kernel_rfl) (by simp) ?_
          refine AllReadyH.cons rfl (fun K hK => ?_) ?_
          · go_simp
            refine (fields_any ⟨kd, lk, sz, nx, ge, dp, rt⟩ p n c _ (hx.below hHeld.2) hfit).mono ?_
            rintro e X3 ⟨rfl, hk2⟩
            have hS2 := And.intro (hHeld.1.kept hk2) (bt hHeld.2 hk2)
            have b3 := b3.kept hk2
            refine hK.out _ _ hS2 (fun hHeld => ?_)
            clear hK K
            try simp only [Act.put, List.getElem_toArray, List.getElem_cons_succ, List.getElem_cons_zero, List.setIfInBounds_toArray, List.set_cons_zero, List.set_cons_succ]
            refine wpAnyH_ready (rs := [4]) (by kernel_rfl) (by simp) ?_
            refine AllReadyH.cons rfl (fun K hK => ?_) AllReadyH.nil
            go_simp
            have b4 := Blk.new' X3 55 #[.int .u64 0, .int .u64 0, .int .u64 0, .int .u64 0, .int .u64 0, .int .u64 0, .int .u64 0, .int .u64 0, .int .u64 0, .int .u64 0, .int .u64 0, .int .u64 0, .int .u64 0, .int .u64 0, .int .u64 0, .int .u64 0, .int .u64 0, .int .u64 0, .int .u64 0, .int .u64 0]
            have hk3 := below_alloc X3 (.cells #[.int .u64 0, .int .u64 0, .int .u64 0, .int .u64 0, .int .u64 0, .int .u64 0, .int .u64 0, .int .u64 0, .int .u64 0, .int .u64 0, .int .u64 0, .int .u64 0, .int .u64 0, .int .u64 0, .int .u64 0, .int .u64 0, .int .u64 0, .int .u64 0, .int .u64 0, .int .u64 0] 55)
            have hS3 := And.intro (hHeld.1.kept hk3) (bt hHeld.2 hk3)
            have hl4 := hHeld.1.lt
            have hw4 := hHeld.2.size
            have hne := b3.lt
            have b3 := b3.kept hk3
            clear hk3
            generalize X3.alloc (.cells #[.int .u64 0, .int .u64 0, .int .u64 0, .int .u64 0, .int .u64 0, .int .u64 0, .int .u64 0, .int .u64 0, .int .u64 0, .int .u64 0, .int .u64 0, .int .u64 0, .int .u64 0, .int .u64 0, .int .u64 0, .int .u64 0, .int .u64 0, .int .u64 0, .int .u64 0, .int .u64 0] 55) = X4 at *
            generalize hg4 : X3.heap.size = g4 at *
            clear hg4
            refine hK.out _ _ hS3 (fun hHeld => ?_)
            clear hK K
            try simp only [Act.put, List.getElem_toArray, List.getElem_cons_succ, List.getElem_cons_zero, List.setIfInBounds_toArray, List.set_cons_zero, List.set_cons_succ]
            refine wpAnyH_ready (rs := [5]) (by kernel_rfl) (by simp) ?_
            refine AllReadyH.cons rfl (fun K hK => ?_) AllReadyH.nil
            refine wp_store_blk 52 (.tmp 5) (.tmp 15) rfl g3 0 (wsI.map (Value.int .i64)) rfl rfl b3 (by simp [wsI_len]) (size_arrI (by rw [List.length_map, wsI_len])) oneWs ?_
            intro X5 c3 t3
            rw [whole_row (by rw [List.length_map, wsI_len]; rfl)] at c3
            have b4 := b4.turned t3 (by omega)
            refine hK.out _ _ ⟨hHeld.1.turned t3 (by omega), t3.below hHeld.2 (by omega)⟩ (fun hHeld => ?_)
            clear hK K
            try simp only [Act.put, List.getElem_toArray, List.getElem_cons_succ, List.getElem_cons_zero, List.setIfInBounds_toArray, List.set_cons_zero, List.set_cons_succ]
            refine wpAnyH_ready (rs := [6]) (by kernel_rfl) (by simp) ?_
            refine AllReadyH.cons rfl (fun K hK => ?_) AllReadyH.nil
            refine wp_store_blk 55 (.tmp 6) (.tmp 17) rfl g4 0 (vals64 (vsI ⟨kd, lk, sz, nx, ge, dp, rt⟩)) rfl rfl b4 (by simp [vals64_length, vsI_len]) (size_arrU (by rw [vals64_length, vsI_len])) (vals64_one _) ?_
            intro X6 c4 t4
            rw [whole_row (by rw [vals64_length, vsI_len]; rfl)] at c4
            have c3 := c3.turned t4 (by omega)
            refine hK.out _ _ ⟨hHeld.1.turned t4 (by omega), t4.below hHeld.2 (by omega)⟩ (fun hHeld => ?_)
            clear hK K
            try simp only [Act.put, List.getElem_toArray, List.getElem_cons_succ, List.getElem_cons_zero, List.setIfInBounds_toArray, List.set_cons_zero, List.set_cons_succ]
            refine wpAnyH_done (by kernel_rfl) ?_ _
            refine NoPanic.normal ?_
            go_wp2_with fail
            go_meet
            case rel => exact ⟨g3, g4, rfl, rfl, c3, c4, hHeld.2⟩
          refine AllReadyH.cons rfl (fun K hK => ?_) AllReadyH.nil
          go_simp
          have b4 := Blk.new' X2 55 #[.int .u64 0, .int .u64 0, .int .u64 0, .int .u64 0, .int .u64 0, .int .u64 0, .int .u64 0, .int .u64 0, .int .u64 0, .int .u64 0, .int .u64 0, .int .u64 0, .int .u64 0, .int .u64 0, .int .u64 0, .int .u64 0, .int .u64 0, .int .u64 0, .int .u64 0, .int .u64 0]
          have hk2 := below_alloc X2 (.cells #[.int .u64 0, .int .u64 0, .int .u64 0, .int .u64 0, .int .u64 0, .int .u64 0, .int .u64 0, .int .u64 0, .int .u64 0, .int .u64 0, .int .u64 0, .int .u64 0, .int .u64 0, .int .u64 0, .int .u64 0, .int .u64 0, .int .u64 0, .int .u64 0, .int .u64 0, .int .u64 0] 55)
          have hS2 := And.intro (hHeld.1.kept hk2) (bt hHeld.2 hk2)
          have hl4 := hHeld.1.lt
          have hw4 := hHeld.2.size
          have hne := b3.lt
          have b3 := b3.kept hk2
          clear hk2
          generalize X2.alloc (.cells #[.int .u64 0, .int .u64 0, .int .u64 0, .int .u64 0, .int .u64 0, .int .u64 0, .int .u64 0, .int .u64 0, .int .u64 0, .int .u64 0, .int .u64 0, .int .u64 0, .int .u64 0, .int .u64 0, .int .u64 0, .int .u64 0, .int .u64 0, .int .u64 0, .int .u64 0, .int .u64 0] 55) = X3 at *
          generalize hg4 : X2.heap.size = g4 at *
          clear hg4
          refine hK.out _ _ hS2 (fun hHeld => ?_)
          clear hK K
          try simp only [Act.put, List.getElem_toArray, List.getElem_cons_succ, List.getElem_cons_zero, List.setIfInBounds_toArray, List.set_cons_zero, List.set_cons_succ]
          refine wpAnyH_ready (rs := [2]) (by kernel_rfl) (by simp) ?_
          refine AllReadyH.cons rfl (fun K hK => ?_) AllReadyH.nil
          go_simp
          refine (fields_any ⟨kd, lk, sz, nx, ge, dp, rt⟩ p n c _ (hx.below hHeld.2) hfit).mono ?_
          rintro e X4 ⟨rfl, hk3⟩
          have hS3 := And.intro (hHeld.1.kept hk3) (bt hHeld.2 hk3)
          have b3 := b3.kept hk3
          have b4 := b4.kept hk3
          refine hK.out _ _ hS3 (fun hHeld => ?_)
          clear hK K
          try simp only [Act.put, List.getElem_toArray, List.getElem_cons_succ, List.getElem_cons_zero, List.setIfInBounds_toArray, List.set_cons_zero, List.set_cons_succ]
          refine wpAnyH_ready (rs := [5]) (by kernel_rfl) (by simp) ?_
          refine AllReadyH.cons rfl (fun K hK => ?_) AllReadyH.nil
          refine wp_store_blk 52 (.tmp 5) (.tmp 15) rfl g3 0 (wsI.map (Value.int .i64)) rfl rfl b3 (by simp [wsI_len]) (size_arrI (by rw [List.length_map, wsI_len])) oneWs ?_
          intro X5 c3 t3
          rw [whole_row (by rw [List.length_map, wsI_len]; rfl)] at c3
          have b4 := b4.turned t3 (by omega)
          refine hK.out _ _ ⟨hHeld.1.turned t3 (by omega), t3.below hHeld.2 (by omega)⟩ (fun hHeld => ?_)
          clear hK K
          try simp only [Act.put, List.getElem_toArray, List.getElem_cons_succ, List.getElem_cons_zero, List.setIfInBounds_toArray, List.set_cons_zero, List.set_cons_succ]
          refine wpAnyH_ready (rs := [6]) (by kernel_rfl) (by simp) ?_
          refine AllReadyH.cons rfl (fun K hK => ?_) AllReadyH.nil
          refine wp_store_blk 55 (.tmp 6) (.tmp 17) rfl g4 0 (vals64 (vsI ⟨kd, lk, sz, nx, ge, dp, rt⟩)) rfl rfl b4 (by simp [vals64_length, vsI_len]) (size_arrU (by rw [vals64_length, vsI_len])) (vals64_one _) ?_
          intro X6 c4 t4
          rw [whole_row (by rw [vals64_length, vsI_len]; rfl)] at c4
          have c3 := c3.turned t4 (by omega)
          refine hK.out _ _ ⟨hHeld.1.turned t4 (by omega), t4.below hHeld.2 (by omega)⟩ (fun hHeld => ?_)
          clear hK K
          try simp only [Act.put, List.getElem_toArray, List.getElem_cons_succ, List.getElem_cons_zero, List.setIfInBounds_toArray, List.set_cons_zero, List.set_cons_succ]
          refine wpAnyH_done (by kernel_rfl) ?_ _
          refine NoPanic.normal ?_
          go_wp2_with fail
          go_meet
          case rel => exact ⟨g3, g4, rfl, rfl, c3, c4, hHeld.2⟩
        refine AllReadyH.cons rfl (fun K hK => ?_) AllReadyH.nil
        go_simp
        have b4 := Blk.new' X1 55 #[.int .u64 0, .int .u64 0, .int .u64 0, .int .u64 0, .int .u64 0, .int .u64 0, .int .u64 0, .int .u64 0, .int .u64 0, .int .u64 0, .int .u64 0, .int .u64 0, .int .u64 0, .int .u64 0, .int .u64 0, .int .u64 0, .int .u64 0, .int .u64 0, .int .u64 0, .int .u64 0]
        have hk1 := below_alloc X1 (.cells #[.int .u64 0, .int .u64 0, .int .u64 0, .int .u64 0, .int .u64 0, .int .u64 0, .int .u64 0, .int .u64 0, .int .u64 0, .int .u64 0, .int .u64 0, .int .u64 0, .int .u64 0, .int .u64 0, .int .u64 0, .int .u64 0, .int .u64 0, .int .u64 0, .int .u64 0, .int .u64 0] 55)
        have hS1 := And.intro (hHeld.1.kept hk1) (bt hHeld.2 hk1)
        have hl4 := hHeld.1.lt
        have hw4 := hHeld.2.size
        have hne := b3.lt
        have b3 := b3.kept hk1
        clear hk1
        generalize X1.alloc (.cells #[.int .u64 0, .int .u64 0, .int .u64 0, .int .u64 0, .int .u64 0, .int .u64 0, .int .u64 0, .int .u64 0, .int .u64 0, .int .u64 0, .int .u64 0, .int .u64 0, .int .u64 0, .int .u64 0, .int .u64 0, .int .u64 0, .int .u64 0, .int .u64 0, .int .u64 0, .int .u64 0] 55) = X2 at *
        generalize hg4 : X1.heap.size = g4 at *
        clear hg4
        refine hK.out _ _ hS1 (fun hHeld => ?_)
        clear hK K
        try simp only [Act.put, List.getElem_toArray, List.getElem_cons_succ, List.getElem_cons_zero, List.setIfInBounds_toArray, List.set_cons_zero, List.set_cons_succ]
        refine wpAnyH_ready (rs := [0]) (by kernel_rfl) (by simp) ?_
        refine AllReadyH.cons rfl (fun K hK => ?_) AllReadyH.nil
        go_simp
        refine (widths_any _).mono ?_
        rintro e X3 ⟨rfl, hk2⟩
        have hS2 := And.intro (hHeld.1.kept hk2) (bt hHeld.2 hk2)
        have b3 := b3.kept hk2
        have b4 := b4.kept hk2
        refine hK.out _ _ hS2 (fun hHeld => ?_)
        clear hK K
        try simp only [Act.put, List.getElem_toArray, List.getElem_cons_succ, List.getElem_cons_zero, List.setIfInBounds_toArray, List.set_cons_zero, List.set_cons_succ]
        refine wpAnyH_ready (rs := [2]) (by kernel_rfl) (by simp) ?_
        refine AllReadyH.cons rfl (fun K hK => ?_) AllReadyH.nil
        go_simp
        refine (fields_any ⟨kd, lk, sz, nx, ge, dp, rt⟩ p n c _ (hx.below hHeld.2) hfit).mono ?_
        rintro e X4 ⟨rfl, hk3⟩
        have hS3 := And.intro (hHeld.1.kept hk3) (bt hHeld.2 hk3)
        have b3 := b3.kept hk3
        have b4 := b4.kept hk3
        refine hK.out _ _ hS3 (fun hHeld => ?_)
        clear hK K
        try simp only [Act.put, List.getElem_toArray, List.getElem_cons_succ, List.getElem_cons_zero, List.setIfInBounds_toArray, List.set_cons_zero, List.set_cons_succ]
        refine wpAnyH_ready (rs := [5]) (by kernel_rfl) (by simp) ?_
        refine AllReadyH.cons rfl (fun K hK => ?_) AllReadyH.nil
        refine wp_store_blk 52 (.tmp 5) (.tmp 15) rfl g3 0 (wsI.map (Value.int .i64)) rfl rfl b3 (by simp [wsI_len]) (size_arrI (by rw [List.length_map, wsI_len])) oneWs ?_
        intro X5 c3 t3
        rw [whole_row (by rw [List.length_map, wsI_len]; rfl)] at c3
        have b4 := b4.turned t3 (by omega)
        refine hK.out _ _ ⟨hHeld.1.turned t3 (by omega), t3.below hHeld.2 (by omega)⟩ (fun hHeld => ?_)
        clear hK K
        try simp only [Act.put, List.getElem_toArray, List.getElem_cons_succ, List.getElem_cons_zero, List.setIfInBounds_toArray, List.set_cons_zero, List.set_cons_succ]
        refine wpAnyH_ready (rs := [6]) (by kernel_rfl) (by simp) ?_
        refine AllReadyH.cons rfl (fun K hK => ?_) AllReadyH.nil
        refine wp_store_blk 55 (.tmp 6) (.tmp 17) rfl g4 0 (vals64 (vsI ⟨kd, lk, sz, nx, ge, dp, rt⟩)) rfl rfl b4 (by simp [vals64_length, vsI_len]) (size_arrU (by rw [vals64_length, vsI_len])) (vals64_one _) ?_
        intro X6 c4 t4
        rw [whole_row (by rw [vals64_length, vsI_len]; rfl)] at c4
        have c3 := c3.turned t4 (by omega)
        refine hK.out _ _ ⟨hHeld.1.turned t4 (by omega), t4.below hHeld.2 (by omega)⟩ (fun hHeld => ?_)
        clear hK K
        try simp only [Act.put, List.getElem_toArray, List.getElem_cons_succ, List.getElem_cons_zero, List.setIfInBounds_toArray, List.set_cons_zero, List.set_cons_succ]
        refine wpAnyH_done (by kernel_rfl) ?_ _
        refine NoPanic.normal ?_
        go_wp2_with fail
        go_meet
        case rel => exact ⟨g3, g4, rfl, rfl, c3, c4, hHeld.2⟩
      refine AllReadyH.cons rfl (fun K hK => ?_) AllReadyH.nil
      go_simp
      have b4 := Blk.new' X0 55 #[.int .u64 0, .int .u64 0, .int .u64 0, .int .u64 0, .int .u64 0, .int .u64 0, .int .u64 0, .int .u64 0, .int .u64 0, .int .u64 0, .int .u64 0, .int .u64 0, .int .u64 0, .int .u64 0, .int .u64 0, .int .u64 0, .int .u64 0, .int .u64 0, .int .u64 0, .int .u64 0]
      have hk0 := below_alloc X0 (.cells #[.int .u64 0, .int .u64 0, .int .u64 0, .int .u64 0, .int .u64 0, .int .u64 0, .int .u64 0, .int .u64 0, .int .u64 0, .int .u64 0, .int .u64 0, .int .u64 0, .int .u64 0, .int .u64 0, .int .u64 0, .int .u64 0, .int .u64 0, .int .u64 0, .int .u64 0, .int .u64 0] 55)
      have hS0 := And.intro (hHeld.1.kept hk0) (bt hHeld.2 hk0)
      have hl4 := hHeld.1.lt
      have hw4 := hHeld.2.size
      clear hk0
      generalize X0.alloc (.cells #[.int .u64 0, .int .u64 0, .int .u64 0, .int .u64 0, .int .u64 0, .int .u64 0, .int .u64 0, .int .u64 0, .int .u64 0, .int .u64 0, .int .u64 0, .int .u64 0, .int .u64 0, .int .u64 0, .int .u64 0, .int .u64 0, .int .u64 0, .int .u64 0, .int .u64 0, .int .u64 0] 55) = X1 at *
      generalize hg4 : X0.heap.size = g4 at *
      clear hg4
      refine hK.out _ _ hS0 (fun hHeld => ?_)
      clear hK K
      try simp only [Act.put, List.getElem_toArray, List.getElem_cons_succ, List.getElem_cons_zero, List.setIfInBounds_toArray, List.set_cons_zero, List.set_cons_succ]
      refine wpAnyH_ready (rs := [0, 3]) (by kernel_rfl) (by simp) ?_
      refine AllReadyH.cons rfl (fun K hK => ?_) ?_
      · go_simp
        refine (widths_any _).mono ?_
        rintro e X2 ⟨rfl, hk1⟩
        have hS1 := And.intro (hHeld.1.kept hk1) (bt hHeld.2 hk1)
        have b4 := b4.kept hk1
        refine hK.out _ _ hS1 (fun hHeld => ?_)
        clear hK K
        try simp only [Act.put, List.getElem_toArray, List.getElem_cons_succ, List.getElem_cons_zero, List.setIfInBounds_toArray, List.set_cons_zero, List.set_cons_succ]
        refine wpAnyH_ready (rs := [2, 3]) (by kernel_rfl) (by simp) ?_
        refine AllReadyH.cons rfl (fun K hK => ?_) ?_
        · go_simp
          refine (fields_any ⟨kd, lk, sz, nx, ge, dp, rt⟩ p n c _ (hx.below hHeld.2) hfit).mono ?_
          rintro e X3 ⟨rfl, hk2⟩
          have hS2 := And.intro (hHeld.1.kept hk2) (bt hHeld.2 hk2)
          have b4 := b4.kept hk2
          refine hK.out _ _ hS2 (fun hHeld => ?_)
          clear hK K
          try simp only [Act.put, List.getElem_toArray, List.getElem_cons_succ, List.getElem_cons_zero, List.setIfInBounds_toArray, List.set_cons_zero, List.set_cons_succ]
          refine wpAnyH_ready (rs := [3]) (by kernel_rfl) (by simp) ?_
          refine AllReadyH.cons rfl (fun K hK => ?_) AllReadyH.nil
          go_simp
          have b3 := Blk.new' X3 52 #[.int .i64 0, .int .i64 0, .int .i64 0, .int .i64 0, .int .i64 0, .int .i64 0, .int .i64 0, .int .i64 0, .int .i64 0, .int .i64 0, .int .i64 0, .int .i64 0, .int .i64 0, .int .i64 0, .int .i64 0, .int .i64 0, .int .i64 0, .int .i64 0, .int .i64 0, .int .i64 0]
          have hk3 := below_alloc X3 (.cells #[.int .i64 0, .int .i64 0, .int .i64 0, .int .i64 0, .int .i64 0, .int .i64 0, .int .i64 0, .int .i64 0, .int .i64 0, .int .i64 0, .int .i64 0, .int .i64 0, .int .i64 0, .int .i64 0, .int .i64 0, .int .i64 0, .int .i64 0, .int .i64 0, .int .i64 0, .int .i64 0] 52)
          have hS3 := And.intro (hHeld.1.kept hk3) (bt hHeld.2 hk3)
          have hl3 := hHeld.1.lt
          have hw3 := hHeld.2.size
          have hne := b4.lt
          have b4 := b4.kept hk3
          clear hk3
          generalize X3.alloc (.cells #[.int .i64 0, .int .i64 0, .int .i64 0, .int .i64 0, .int .i64 0, .int .i64 0, .int .i64 0, .int .i64 0, .int .i64 0, .int .i64 0, .int .i64 0, .int .i64 0, .int .i64 0, .int .i64 0, .int .i64 0, .int .i64 0, .int .i64 0, .int .i64 0, .int .i64 0, .int .i64 0] 52) = X4 at *
          generalize hg3 : X3.heap.size = g3 at *
          clear hg3
          refine hK.out _ _ hS3 (fun hHeld => ?_)
          clear hK K
          try simp only [Act.put, List.getElem_toArray, List.getElem_cons_succ, List.getElem_cons_zero, List.setIfInBounds_toArray, List.set_cons_zero, List.set_cons_succ]
          refine wpAnyH_ready (rs := [5]) (by kernel_rfl) (by simp) ?_
          refine AllReadyH.cons rfl (fun K hK => ?_) AllReadyH.nil
          refine wp_store_blk 52 (.tmp 5) (.tmp 15) rfl g3 0 (wsI.map (Value.int .i64)) rfl rfl b3 (by simp [wsI_len]) (size_arrI (by rw [List.length_map, wsI_len])) oneWs ?_
          intro X5 c3 t3
          rw [whole_row (by rw [List.length_map, wsI_len]; rfl)] at c3
          have b4 := b4.turned t3 (by omega)
          refine hK.out _ _ ⟨hHeld.1.turned t3 (by omega), t3.below hHeld.2 (by omega)⟩ (fun hHeld => ?_)
          clear hK K
          try simp only [Act.put, List.getElem_toArray, List.getElem_cons_succ, List.getElem_cons_zero, List.setIfInBounds_toArray, List.set_cons_zero, List.set_cons_succ]
          refine wpAnyH_ready (rs := [6]) (by kernel_rfl) (by simp) ?_
          refine AllReadyH.cons rfl (fun K hK => ?_) AllReadyH.nil
          refine wp_store_blk 55 (.tmp 6) (.tmp 17) rfl g4 0 (vals64 (vsI ⟨kd, lk, sz, nx, ge, dp, rt⟩)) rfl rfl b4 (by simp [vals64_length, vsI_len]) (size_arrU (by rw [vals64_length, vsI_len])) (vals64_one _) ?_
          intro X6 c4 t4
          rw [whole_row (by rw [vals64_length, vsI_len]; rfl)] at c4
          have c3 := c3.turned t4 (by omega)
          refine hK.out _ _ ⟨hHeld.1.turned t4 (by omega), t4.below hHeld.2 (by omega)⟩ (fun hHeld => ?_)
          clear hK K
          try simp only [Act.put, List.getElem_toArray, List.getElem_cons_succ, List.getElem_cons_zero, List.setIfInBounds_toArray, List.set_cons_zero, List.set_cons_succ]
          refine wpAnyH_done (by kernel_rfl) ?_ _
          refine NoPanic.normal ?_
          go_wp2_with fail
          go_meet
          case rel => exact ⟨g3, g4, rfl, rfl, c3, c4, hHeld.2⟩
        refine AllReadyH.cons rfl (fun K hK => ?_) AllReadyH.nil
        go_simp
        have b3 := Blk.new' X2 52 #[.int .i64 0, .int .i64 0, .int .i64 0, .int .i64 0, .int .i64 0, .int .i64 0, .int .i64 0, .int .i64 0, .int .i64 0, .int .i64 0, .int .i64 0, .int .i64 0, .int .i64 0, .int .i64 0, .int .i64 0, .int .i64 0, .int .i64 0, .int .i64 0, .int .i64 0, .int .i64 0]
        have hk2 := below_alloc X2 (.cells #[.int .i64 0, .int .i64 0, .int .i64 0, .int .i64 0, .int .i64 0, .int .i64 0, .int .i64 0, .int .i64 0, .int .i64 0, .int .i64 0, .int .i64 0, .int .i64 0, .int .i64 0, .int .i64 0, .int .i64 0, .int .i64 0, .int .i64 0, .int .i64 0, .int .i64 0, .int .i64 0] 52)
        have hS2 := And.intro (hHeld.1.kept hk2) (bt hHeld.2 hk2)
        have hl3 := hHeld.1.lt
        have hw3 := hHeld.2.size
        have hne := b4.lt
        have b4 := b4.kept hk2
        clear hk2
        generalize X2.alloc (.cells #[.int .i64 0, .int .i64 0, .int .i64 0, .int .i64 0, .int .i64 0, .int .i64 0, .int .i64 0, .int .i64 0, .int .i64 0, .int .i64 0, .int .i64 0, .int .i64 0, .int .i64 0, .int .i64 0, .int .i64 0, .int .i64 0, .int .i64 0, .int .i64 0, .int .i64 0, .int .i64 0] 52) = X3 at *
        generalize hg3 : X2.heap.size = g3 at *
        clear hg3
        refine hK.out _ _ hS2 (fun hHeld => ?_)
        clear hK K
        try simp only [Act.put, List.getElem_toArray, List.getElem_cons_succ, List.getElem_cons_zero, List.setIfInBounds_toArray, List.set_cons_zero, List.set_cons_succ]
        refine wpAnyH_ready (rs := [2]) (by kernel_rfl) (by simp) ?_
        refine AllReadyH.cons rfl (fun K hK => ?_) AllReadyH.nil
        go_simp
        refine (fields_any ⟨kd, lk, sz, nx, ge, dp, rt⟩ p n c _ (hx.below hHeld.2) hfit).mono ?_
        rintro e X4 ⟨rfl, hk3⟩
        have hS3 := And.intro (hHeld.1.kept hk3) (bt hHeld.2 hk3)
        have b3 := b3.kept hk3
        have b4 := b4.kept hk3
        refine hK.out _ _ hS3 (fun hHeld => ?_)
        clear hK K
        try simp only [Act.put, List.getElem_toArray, List.getElem_cons_succ, List.getElem_cons_zero, List.setIfInBounds_toArray, List.set_cons_zero, List.set_cons_succ]
        refine wpAnyH_ready (rs := [5]) (by kernel_rfl) (by simp) ?_
        refine AllReadyH.cons rfl (fun K hK => ?_) AllReadyH.nil
        refine wp_store_blk 52 (.tmp 5) (.tmp 15) rfl g3 0 (wsI.map (Value.int .i64)) rfl rfl b3 (by simp [wsI_len]) (size_arrI (by rw [List.length_map, wsI_len])) oneWs ?_
        intro X5 c3 t3
        rw [whole_row (by rw [List.length_map, wsI_len]; rfl)] at c3
        have b4 := b4.turned t3 (by omega)
        refine hK.out _ _ ⟨hHeld.1.turned t3 (by omega), t3.below hHeld.2 (by omega)⟩ (fun hHeld => ?_)
        clear hK K
        try simp only [Act.put, List.getElem_toArray, List.getElem_cons_succ, List.getElem_cons_zero, List.setIfInBounds_toArray, List.set_cons_zero, List.set_cons_succ]
        refine wpAnyH_ready (rs := [6]) (by kernel_rfl) (by simp) ?_
        refine AllReadyH.cons rfl (fun K hK => ?_) AllReadyH.nil
        refine wp_store_blk 55 (.tmp 6) (.tmp 17) rfl g4 0 (vals64 (vsI ⟨kd, lk, sz, nx, ge, dp, rt⟩)) rfl rfl b4 (by simp [vals64_length, vsI_len]) (size_arrU (by rw [vals64_length, vsI_len])) (vals64_one _) ?_
        intro X6 c4 t4
        rw [whole_row (by rw [vals64_length, vsI_len]; rfl)] at c4
        have c3 := c3.turned t4 (by omega)
        refine hK.out _ _ ⟨hHeld.1.turned t4 (by omega), t4.below hHeld.2 (by omega)⟩ (fun hHeld => ?_)
        clear hK K
        try simp only [Act.put, List.getElem_toArray, List.getElem_cons_succ, List.getElem_cons_zero, List.setIfInBounds_toArray, List.set_cons_zero, List.set_cons_succ]
        refine wpAnyH_done (by kernel_rfl) ?_ _
        refine NoPanic.normal ?_
        go_wp2_with fail
        go_meet
        case rel => exact ⟨g3, g4, rfl, rfl, c3, c4, hHeld.2⟩
      refine AllReadyH.cons rfl (fun K hK => ?_) AllReadyH.nil
      go_simp
      have b3 := Blk.new' X1 52 #[.int .i64 0, .int .i64 0, .int .i64 0, .int .i64 0, .int .i64 0, .int .i64 0, .int .i64 0, .int .i64 0, .int .i64 0, .int .i64 0, .int .i64 0, .int .i64 0, .int .i64 0, .int .i64 0, .int .i64 0, .int .i64 0, .int .i64 0, .int .i64 0, .int .i64 0, .int .i64 0]
      have hk1 := below_alloc X1 (.cells #[.int .i64 0, .int .i64 0, .int .i64 0, .int .i64 0, .int .i64 0, .int .i64 0, .int .i64 0, .int .i64 0, .int .i64 0, .int .i64 0, .int .i64 0, .int .i64 0, .int .i64 0, .int .i64 0, .int .i64 0, .int .i64 0, .int .i64 0, .int .i64 0, .int .i64 0, .int .i64 0] 52)
      have hS1 := And.intro (hHeld.1.kept hk1) (bt hHeld.2 hk1)
      have hl3 := hHeld.1.lt
      have hw3 := hHeld.2.size
      have hne := b4.lt
      have b4 := b4.kept hk1
      clear hk1
      generalize X1.alloc (.cells #[.int .i64 0, .int .i64 0, .int .i64 0, .int .i64 0, .int .i64 0, .int .i64 0, .int .i64 0, .int .i64 0, .int .i64 0, .int .i64 0, .int .i64 0, .int .i64 0, .int .i64 0, .int .i64 0, .int .i64 0, .int .i64 0, .int .i64 0, .int .i64 0, .int .i64 0, .int .i64 0] 52) = X2 at *
      generalize hg3 : X1.heap.size = g3 at *
      clear hg3
      refine hK.out _ _ hS1 (fun hHeld => ?_)
      clear hK K
      try simp only [Act.put, List.getElem_toArray, List.getElem_cons_succ, List.getElem_cons_zero, List.setIfInBounds_toArray, List.set_cons_zero, List.set_cons_succ]
      refine wpAnyH_ready (rs := [0]) (by kernel_rfl) (by simp) ?_
      refine AllReadyH.cons rfl (fun K hK => ?_) AllReadyH.nil
      go_simp
      refine (widths_any _).mono ?_
      rintro e X3 ⟨rfl, hk2⟩
      have hS2 := And.intro (hHeld.1.kept hk2) (bt hHeld.2 hk2)
      have b3 := b3.kept hk2
      have b4 := b4.kept hk2
      refine hK.out _ _ hS2 (fun hHeld => ?_)
      clear hK K
      try simp only [Act.put, List.getElem_toArray, List.getElem_cons_succ, List.getElem_cons_zero, List.setIfInBounds_toArray, List.set_cons_zero, List.set_cons_succ]
      refine wpAnyH_ready (rs := [2]) (by kernel_rfl) (by simp) ?_
      refine AllReadyH.cons rfl (fun K hK => ?_) AllReadyH.nil
      go_simp
      refine (fields_any ⟨kd, lk, sz, nx, ge, dp, rt⟩ p n c _ (hx.below hHeld.2) hfit).mono ?_
      rintro e X4 ⟨rfl, hk3⟩
      have hS3 := And.intro (hHeld.1.kept hk3) (bt hHeld.2 hk3)
      have b3 := b3.kept hk3
      have b4 := b4.kept hk3
      refine hK.out _ _ hS3 (fun hHeld => ?_)
      clear hK K
      try simp only [Act.put, List.getElem_toArray, List.getElem_cons_succ, List.getElem_cons_zero, List.setIfInBounds_toArray, List.set_cons_zero, List.set_cons_succ]
      refine wpAnyH_ready (rs := [5]) (by kernel_rfl) (by simp) ?_
      refine AllReadyH.cons rfl (fun K hK => ?_) AllReadyH.nil
      refine wp_store_blk 52 (.tmp 5) (.tmp 15) rfl g3 0 (wsI.map (Value.int .i64)) rfl rfl b3 (by simp [wsI_len]) (size_arrI (by rw [List.length_map, wsI_len])) oneWs ?_
      intro X5 c3 t3
      rw [whole_row (by rw [List.length_map, wsI_len]; rfl)] at c3
      have b4 := b4.turned t3 (by omega)
      refine hK.out _ _ ⟨hHeld.1.turned t3 (by omega), t3.below hHeld.2 (by omega)⟩ (fun hHeld => ?_)
      clear hK K
      try simp only [Act.put, List.getElem_toArray, List.getElem_cons_succ, List.getElem_cons_zero, List.setIfInBounds_toArray, List.set_cons_zero, List.set_cons_succ]
      refine wpAnyH_ready (rs := [6]) (by kernel_rfl) (by simp) ?_
      refine AllReadyH.cons rfl (fun K hK => ?_) AllReadyH.nil
      refine wp_store_blk 55 (.tmp 6) (.tmp 17) rfl g4 0 (vals64 (vsI ⟨kd, lk, sz, nx, ge, dp, rt⟩)) rfl rfl b4 (by simp [vals64_length, vsI_len]) (size_arrU (by rw [vals64_length, vsI_len])) (vals64_one _) ?_
      intro X6 c4 t4
      rw [whole_row (by rw [vals64_length, vsI_len]; rfl)] at c4
      have c3 := c3.turned t4 (by omega)
      refine hK.out _ _ ⟨hHeld.1.turned t4 (by omega), t4.below hHeld.2 (by omega)⟩ (fun hHeld => ?_)
      clear hK K
      try simp only [Act.put, List.getElem_toArray, List.getElem_cons_succ, List.getElem_cons_zero, List.setIfInBounds_toArray, List.set_cons_zero, List.set_cons_succ]
      refine wpAnyH_done (by kernel_rfl) ?_ _
      refine NoPanic.normal ?_
      go_wp2_with fail
      go_meet
      case rel => exact ⟨g3, g4, rfl, rfl, c3, c4, hHeld.2⟩
    case rest =>
      obtain ⟨g5, g6, rfl, rfl, c5, c6, hbc⟩ := hcut
      clear r1 hbq
      go_upto_region 5 with fail
      refine wp_region_noPanic ?_
      refine wp_region_held_drew (S := (fun Y => Below wc.heap.size wc Y)) (by kernel_rfl) (Below.refl _ _).drew (fun hHeld => ?_)
      refine wpAnyH_take (i := 0) (v := ?_) rfl (by kernel_rfl) (by kernel_rfl) (by kernel_rfl) (fun _ _ _ h => h) (Or.inl ⟨by rfl, ?_⟩) hHeld ?_
      rotate_left
      · intro w' hSw; try dsimp only at hSw
        go_simp; try (with_reducible rfl)
      try simp only [Act.put, List.getElem_toArray, List.getElem_cons_succ, List.getElem_cons_zero, List.setIfInBounds_toArray, List.set_cons_zero, List.set_cons_succ]
      refine wpAnyH_take (i := 1) (v := ?_) rfl (by kernel_rfl) (by kernel_rfl) (by kernel_rfl) (fun _ _ _ h => h) (Or.inl ⟨by rfl, ?_⟩) hHeld ?_
      rotate_left
      · intro w' hSw; try dsimp only at hSw
        go_simp; try (with_reducible rfl)
      try simp only [Act.put, List.getElem_toArray, List.getElem_cons_succ, List.getElem_cons_zero, List.setIfInBounds_toArray, List.set_cons_zero, List.set_cons_succ]
      refine wpAnyH_ready (rs := [2]) (by kernel_rfl) (by simp) ?_
      refine AllReadyH.cons rfl (fun K hK => ?_) AllReadyH.nil
      go_simp
      refine (pack_any (some ⟨g5, 0, none⟩) (some ⟨g6, 0, none⟩) 20 20 20 20 wsI (vsI ⟨kd, lk, sz, nx, ge, dp, rt⟩) _ ((inI_blk c5 wsI_len (by decide)).below hHeld) ((in64_blk c6 (vsI_len _) (vsI_lim hfit) (by decide)).below hHeld)).mono ?_
      rintro e w7 ⟨p7, n7, c7, rfl, hin7, hb7⟩
      have hB7 := bt hHeld hb7
      rw [packE_ok (packI_ok hfit)]
      refine hK.out _ _ hB7 (fun hHeld => ?_)
      clear hK K
      try simp only [Act.put, List.getElem_toArray, List.getElem_cons_succ, List.getElem_cons_zero, List.setIfInBounds_toArray, List.set_cons_zero, List.set_cons_succ]
      refine wpAnyH_take (i := 3) (v := ?_) rfl (by kernel_rfl) (by kernel_rfl) (by kernel_rfl) (fun _ _ _ h => h) (Or.inl ⟨by rfl, ?_⟩) hHeld ?_
      rotate_left
      · intro w' hSw; try dsimp only at hSw
        go_simp; try (with_reducible rfl)
      try simp only [Act.put, List.getElem_toArray, List.getElem_cons_succ, List.getElem_cons_zero, List.setIfInBounds_toArray, List.set_cons_zero, List.set_cons_succ]
      refine wpAnyH_take (i := 4) (v := ?_) rfl (by kernel_rfl) (by kernel_rfl) (by kernel_rfl) (fun _ _ _ h => h) (Or.inl ⟨by rfl, ?_⟩) hHeld ?_
      rotate_left
      · intro w' hSw; try dsimp only at hSw
        go_simp; try (with_reducible rfl)
      try simp only [Act.put, List.getElem_toArray, List.getElem_cons_succ, List.getElem_cons_zero, List.setIfInBounds_toArray, List.set_cons_zero, List.set_cons_succ]
      refine wpAnyH_take (i := 5) (v := ?_) rfl (by kernel_rfl) (by kernel_rfl) (by kernel_rfl) (fun _ _ _ h => h) (Or.inl ⟨by rfl, ?_⟩) hHeld ?_
      rotate_left
      · intro w' hSw; try dsimp only at hSw
        go_simp; try (with_reducible rfl)
      try simp only [Act.put, List.getElem_toArray, List.getElem_cons_succ, List.getElem_cons_zero, List.setIfInBounds_toArray, List.set_cons_zero, List.set_cons_succ]
      refine wpAnyH_take (i := 6) (v := ?_) rfl (by kernel_rfl) (by kernel_rfl) (by kernel_rfl) (fun _ _ _ h => h) (Or.inl ⟨by rfl, ?_⟩) hHeld ?_
      rotate_left
      · intro w' hSw; try dsimp only at hSw
        go_simp; try (with_reducible rfl)
      try simp only [Act.put, List.getElem_toArray, List.getElem_cons_succ, List.getElem_cons_zero, List.setIfInBounds_toArray, List.set_cons_zero, List.set_cons_succ]
      refine wpAnyH_take (i := 7) (v := ?_) rfl (by kernel_rfl) (by kernel_rfl) (by kernel_rfl) (fun _ _ _ h => h) (Or.inl ⟨by rfl, ?_⟩) hHeld ?_
      rotate_left
      · intro w' hSw; try dsimp only at hSw
        go_simp; try (with_reducible rfl)
      try simp only [Act.put, List.getElem_toArray, List.getElem_cons_succ, List.getElem_cons_zero, List.setIfInBounds_toArray, List.set_cons_zero, List.set_cons_succ]
      refine wpAnyH_done (by kernel_rfl) ?_ _
      refine NoPanic.normal ?_
      have hn7 := hin7.len
      rw [HL.out] at hn7
      subst hn7
      go_upto_region 9 with (at_make; refine wpList_make_full _ rfl _ _ 25 rfl w7.heap.size 5 i0 (.int .u8 0) 1 Try.underlying25 hi hz0 hz1 .i64 .i64 _ _ 64 rfl rfl rfl rfl (by rw [hz2]; omega) (by unfold maxLen; omega) (Nat.le_refl _) ?_; intro w8 hown8 hgrow8)
      have g8 := owns_block (made_owns hown8)
      have hb8 := below_grown0 hgrow8
      have hg8 : Blk w8 w7.heap.size 5 (vals (List.replicate 64 0)) := g8
      obtain ⟨w9, hcp, hX9, ht9⟩ := copy_gen (o := 0) (L := 64) hg8 (by simp) (hin7.below hb8)
      have hle := (hbc.trans (hB7.mono hbc.size)).size
      have hB9 := ht9.below (bt (hbc.trans (hB7.mono hbc.size)) hb8) hle
      rw [lay_pad64 HL.out, ← HB.out] at hX9
      have hi9 : In w9 (some ⟨w7.heap.size, 0, none⟩) 64 64 (encL ⟨kd, lk, sz, nx, ge, dp, rt⟩) := by
        obtain ⟨p', c', hv, hin⟩ := in_of_owns (xs := encL ⟨kd, lk, sz, nx, ge, dp, rt⟩) (owns_of_block (B := 0) (n := 64) (Nat.zero_le _) (by rw [vals_length]; exact HL2.out) (by unfold maxLen; decide) hX9) HY (by decide)
        cases hv; exact hin
      clear hown8 hgrow8 g8 hg8 hX9 ht9 hin7 hb8 hB7
      generalize hmn : ((min 64 60 : Nat) : Int) = mq at hcp
      clear hmn
      go_wp2
      go_ret2
      exact ⟨_, _, _, rfl, hi9, hB9, fun a h => by cases h; exact hle⟩
end Go.Proofs.Ytgeomfgfeemciaa
