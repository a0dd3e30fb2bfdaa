/-
  What the reference's Apply answers.
-/
import Derived.Test.YtpikaagdiafieaaMjRef3
namespace Go.Proofs.Ytpikaagdiafieaa
open Go.RowKit
theorem PS.setBox {w W W' : World} {V U : SV} {s t : MS} (h : PS w V s W) (ht : Turned W W' w.heap.size) (hb : Blk W' w.heap.size 25 (U.cells t)) : PS w U t W' := by
  obtain ⟨cs, hl, hr⟩ := h.res
  exact ⟨ht.below h.bel (Nat.le_refl _), hb, cs, hl, hr.turned ht (by omega)⟩
set_option linter.unusedSimpArgs false in
set_option maxRecDepth 100000 in
set_option maxHeartbeats 4000000 in
theorem rapply_any (V : SV) (s : MS) (pl : Option Addr) (N c' : Nat) (l : List MR) (w : World) (hs : InS w V s) (hl : InR w pl N c' l) :
    Calls Try.prog 21 #[V.val s, .slice pl N c'] w (ResS w (applyR s l)) := by
  have h0 := PS.start w V s (.slice none 0 0) (.slice none 0 0) (.int .i64 0)
  have hck := rcheck_any V s _ (hs.below h0.bel)
  cases hok : okMS s with
  | false =>
    rw [chkE_no hok] at hck
    have E : Hid (applyR s l = (MS.zero, 60)) := applyR_no hok
    obtain ⟨x0, x1, x2⟩ := h0.box.cells3
    go_enter Try.func21, Try.ntmps21
    go_wp2_with (first
      | (go_at_call 16; refine hck.mono ?_; rintro e w1 ⟨rfl, hb1⟩; have h1 := h0.next hb1; obtain ⟨cs, hcl, hres⟩ := h1.res)
      | (guard_target = wpList _ _ _ (Oper.mk _ (Op.store 25 (Operand.tmp 4) _) _ _ _ _ :: _) _ _; refine wpList_store_blk rfl 25 (.tmp 4) (.tmp 12) rfl _ _ [.slice none 0 0, .slice none 0 0, .int .i64 0] rfl rfl hres (by rw [hcl]; exact Nat.le_refl _) (msSize ⟨none, 0, 0, none, 0, 0⟩ MS.zero) (msOne ⟨none, 0, 0, none, 0, 0⟩ MS.zero) ?_; intro w9 h9 ht9; rw [whole_row (by rw [hcl]; rfl)] at h9; replace h9 : Blk w9 (w.heap.size + 1) 25 (SV.cells ⟨none, 0, 0, none, 0, 0⟩ MS.zero) := h9))
    refine ret_msE Try.results21 rfl h9 rfl rfl ?_
    rw [E.out]
    exact ⟨_, rfl, ownS_zero _ _, ht9.below h1.bel (by omega)⟩
  | true =>
    rw [chkE_ok hok] at hck
    have HLl : Hid (l.length = N) := hl.len
    have hN : N ≤ 140737488355328 := hl.room
    have HL : Hid (s.bad.length = V.n) := hs.b.len
    have HWl : Hid (s.wear.length = V.m) := hs.v.len
    obtain ⟨⟨ka1, ka2⟩, ka3, -⟩ := okMS_iff.1 hok
    rw [HL.out] at ka1 ka2 ka3
    rw [HWl.out] at ka3
    have HOK : Hid (okMS s = true) := hok
    clear hok
    obtain ⟨x0, x1, x2⟩ := h0.box.cells3
    obtain ⟨p, n0, c, q, n, d⟩ := V
    dsimp only at ka1 ka2 ka3
    subst ka3
    dsimp only [SV.val] at *
    go_enter Try.func21, Try.ntmps21
    go_wp2_with (first
      | (go_at_call 16; refine hck.mono ?_; rintro e w1 ⟨rfl, hb1⟩; have h1 := h0.next hb1; obtain ⟨x0, x1, x2⟩ := h1.box.cells3; clear hck h0)
      | (go_at_call 49; refine (rclone_any ⟨p, n, c, q, n, d⟩ s _ (hs.below h1.bel) (by dsimp only; omega) (by dsimp only; omega)).mono ?_; rintro e w2 ⟨V2, rfl, hv1, hv2, ho2, hb2⟩; obtain ⟨p2, n2, c2, q2, m2, d2⟩ := V2; dsimp only at hv1 hv2; have e1 := hv1.symm; have e2 := hv2.symm; clear hv1 hv2; subst e1; subst e2; clear x0 x1 x2; have h2 := h1.next hb2; have hsz2 := hb2.size; dsimp only [SV.val])
      | (guard_target = wpList _ _ _ (Oper.mk _ (Op.store 25 (Operand.tmp 2) _) _ _ _ _ :: _) _ _; refine wpList_store_blk rfl 25 (.tmp 2) (.tmp 15) rfl _ _ [.slice p2 n c2, .slice q2 n d2, .int .i64 s.seq] rfl rfl h2.box (by exact Nat.le_refl _) (msSize ⟨p2, n, c2, q2, n, d2⟩ s) (msOne ⟨p2, n, c2, q2, n, d2⟩ s) ?_; intro w3 b3 ht3; replace b3 : Blk w3 w.heap.size 25 (SV.cells ⟨p2, n, c2, q2, n, d2⟩ s) := b3; have h3 := h2.setBox ht3 b3; have o3 := ho2.turned ht3 (owns_blk_ne (by decide) ho2.b h2.box) (owns_blk_ne (by decide) ho2.v h2.box); have hsz3 : w1.heap.size ≤ w3.heap.size := by (rw [ht3.size]; exact hsz2)))
    have hlow : w.heap.size ≤ w1.heap.size := h1.bel.size
    have hlow1 : w.heap.size + 1 < w1.heap.size := by obtain ⟨_, _, hr⟩ := h1.res; exact hr.lt
    clear b3 ht3 h2 hsz2 ho2 hb2
    go_loopw [7] (fun i wr => ∃ k : Nat, k ≤ N ∧ i = .int .i64 k ∧ PS w ⟨p2, n, c2, q2, n, d2⟩ ((l.take k).foldl learnR s) wr ∧ OwnS w1.heap.size wr ⟨p2, n, c2, q2, n, d2⟩ ((l.take k).foldl learnR s) ∧ w1.heap.size ≤ wr.heap.size ∧ (∀ j, j < k → okFor n (eR l j) = true)) (fun i _ => N - (intOf i).toNat)
    case atStart => exact ⟨0, Nat.zero_le _, rfl, h3, o3, hsz3, fun j h => by omega⟩
    case round =>
      obtain ⟨k, hk, rfl, hw, hx, hszr, hall⟩ := hrel
      have HA : Hid (∀ j, j < k → okFor n (eR l j) = true) := hall
      clear hall h3 o3 hsz3
      by_cases hlt : k < N
      · obtain ⟨gr, orr, rfl, hgr, hcr⟩ := (hl.below hw.bel).at' (by omega)
        have hrc : ∀ W, Below wr.heap.size wr W → W.cell? ⟨gr, orr + k * 3, none⟩ = some (.int .i64 (eR l k).kind) ∧ W.cell? ⟨gr, orr + k * 3 + 1, none⟩ = some (.int .i64 (eR l k).block) ∧ W.cell? ⟨gr, orr + k * 3 + 2, none⟩ = some (.int .i64 (eR l k).value) := fun W hW => by
          obtain ⟨a1, a2, a3⟩ := hcr k hlt
          exact ⟨(hW.cell (p := ⟨gr, orr + k * 3, none⟩) hgr).trans a1, (hW.cell (p := ⟨gr, orr + k * 3 + 1, none⟩) hgr).trans a2, (hW.cell (p := ⟨gr, orr + k * 3 + 2, none⟩) hgr).trans a3⟩
        clear hcr
        cases hok : okMR (eR l k) with
        | false =>
          have E : Hid (applyR s l = (MS.zero, 61)) := applyR_bad HOK.out (allR_not (by rw [HLl.out]; exact hlt) (okFor_no1 hok))
          go_upto_region 8 with (fail)
          refine wp_region_noPanic ?_
          refine wp_region_held_drew (S := Below wr.heap.size wr) (by kernel_rfl) (Below.refl _ _).drew (fun hHeld => ?_)
          refine wpAnyH_take (i := 0) (v := ?_) rfl (by kernel_rfl) (by kernel_rfl) (by kernel_rfl) (fun _ _ _ h => h) (Or.inl ⟨by rfl, ?_⟩) hHeld ?_
          rotate_left
          · intro w' hSw; try dsimp only at hSw
            go_simp; try (with_reducible rfl)
          try simp only [Act.put, List.getElem_toArray, List.getElem_cons_succ, List.getElem_cons_zero, List.setIfInBounds_toArray, List.set_cons_zero, List.set_cons_succ]
          refine wpAnyH_take (i := 1) (v := ?_) rfl (by kernel_rfl) (by kernel_rfl) (by kernel_rfl) (fun _ _ _ h => h) (Or.inl ⟨by rfl, ?_⟩) hHeld ?_
          rotate_left
          · intro w' hSw; try dsimp only at hSw
            go_simp; try (with_reducible rfl)
          try simp only [Act.put, List.getElem_toArray, List.getElem_cons_succ, List.getElem_cons_zero, List.setIfInBounds_toArray, List.set_cons_zero, List.set_cons_succ]
          refine wpAnyH_take (i := 2) (v := ?_) rfl (by kernel_rfl) (by kernel_rfl) (by kernel_rfl) (fun _ _ _ h => h) (Or.inl ⟨by rfl, ?_⟩) hHeld ?_
          rotate_left
          · intro w' hSw; try dsimp only at hSw
            go_simp; try (with_reducible rfl)
          try simp only [Act.put, List.getElem_toArray, List.getElem_cons_succ, List.getElem_cons_zero, List.setIfInBounds_toArray, List.set_cons_zero, List.set_cons_succ]
          refine wpAnyH_take (i := 3) (v := ?_) rfl (by kernel_rfl) (by kernel_rfl) (by kernel_rfl) (fun _ _ _ h => h) (Or.inl ⟨by rfl, ?_⟩) hHeld ?_
          rotate_left
          · intro w' hSw; try dsimp only at hSw
            obtain ⟨qa, qb, qc⟩ := hrc _ hSw
            go_simp; try (with_reducible rfl)
          try simp only [Act.put, List.getElem_toArray, List.getElem_cons_succ, List.getElem_cons_zero, List.setIfInBounds_toArray, List.set_cons_zero, List.set_cons_succ]
          refine wpAnyH_ready (rs := [4]) (by kernel_rfl) (by simp) ?_
          refine AllReadyH.cons rfl (fun K hK => ?_) AllReadyH.nil
          go_simp
          refine (rmay_any (eR l k) _).mono ?_
          rintro e w4 ⟨rfl, hb4⟩
          rw [hok]
          try go_wp2_with fail
          refine hK.out _ _ (bt hHeld hb4) (fun hHeld => ?_)
          clear hK K
          try simp only [Act.put, List.getElem_toArray, List.getElem_cons_succ, List.getElem_cons_zero, List.setIfInBounds_toArray, List.set_cons_zero, List.set_cons_succ]
          refine wpAnyH_take (i := 5) (v := ?_) rfl (by kernel_rfl) (by kernel_rfl) (by kernel_rfl) (fun _ _ _ h => h) (Or.inl ⟨by rfl, ?_⟩) hHeld ?_
          rotate_left
          · intro w' hSw; try dsimp only at hSw
            go_simp; try (with_reducible rfl)
          try simp only [Act.put, List.getElem_toArray, List.getElem_cons_succ, List.getElem_cons_zero, List.setIfInBounds_toArray, List.set_cons_zero, List.set_cons_succ]
          refine wpAnyH_take (i := 6) (v := ?_) rfl (by kernel_rfl) (by kernel_rfl) (by kernel_rfl) (fun _ _ _ h => h) (Or.inl ⟨by rfl, ?_⟩) hHeld ?_
          rotate_left
          · intro w' hSw; try dsimp only at hSw
            go_simp; try (with_reducible rfl)
          try simp only [Act.put, List.getElem_toArray, List.getElem_cons_succ, List.getElem_cons_zero, List.setIfInBounds_toArray, List.set_cons_zero, List.set_cons_succ]
          refine wpAnyH_take (i := 7) (v := undef) rfl (by kernel_rfl) (by kernel_rfl) (by kernel_rfl) (fun _ _ _ h => h) (Or.inr ⟨by rfl, rfl⟩) hHeld ?_
          try simp only [Act.put, List.getElem_toArray, List.getElem_cons_succ, List.getElem_cons_zero, List.setIfInBounds_toArray, List.set_cons_zero, List.set_cons_succ]
          refine wpAnyH_take (i := 8) (v := undef) rfl (by kernel_rfl) (by kernel_rfl) (by kernel_rfl) (fun _ _ _ h => h) (Or.inr ⟨by rfl, rfl⟩) hHeld ?_
          try simp only [Act.put, List.getElem_toArray, List.getElem_cons_succ, List.getElem_cons_zero, List.setIfInBounds_toArray, List.set_cons_zero, List.set_cons_succ]
          refine wpAnyH_take (i := 9) (v := undef) rfl (by kernel_rfl) (by kernel_rfl) (by kernel_rfl) (fun _ _ _ h => h) (Or.inr ⟨by rfl, rfl⟩) hHeld ?_
          try simp only [Act.put, List.getElem_toArray, List.getElem_cons_succ, List.getElem_cons_zero, List.setIfInBounds_toArray, List.set_cons_zero, List.set_cons_succ]
          refine wpAnyH_take (i := 10) (v := undef) rfl (by kernel_rfl) (by kernel_rfl) (by kernel_rfl) (fun _ _ _ h => h) (Or.inr ⟨by rfl, rfl⟩) hHeld ?_
          try simp only [Act.put, List.getElem_toArray, List.getElem_cons_succ, List.getElem_cons_zero, List.setIfInBounds_toArray, List.set_cons_zero, List.set_cons_succ]
          refine wpAnyH_take (i := 11) (v := undef) rfl (by kernel_rfl) (by kernel_rfl) (by kernel_rfl) (fun _ _ _ h => h) (Or.inr ⟨by rfl, rfl⟩) hHeld ?_
          try simp only [Act.put, List.getElem_toArray, List.getElem_cons_succ, List.getElem_cons_zero, List.setIfInBounds_toArray, List.set_cons_zero, List.set_cons_succ]
          refine wpAnyH_take (i := 12) (v := undef) rfl (by kernel_rfl) (by kernel_rfl) (by kernel_rfl) (fun _ _ _ h => h) (Or.inr ⟨by rfl, rfl⟩) hHeld ?_
          try simp only [Act.put, List.getElem_toArray, List.getElem_cons_succ, List.getElem_cons_zero, List.setIfInBounds_toArray, List.set_cons_zero, List.set_cons_succ]
          refine wpAnyH_take (i := 13) (v := undef) rfl (by kernel_rfl) (by kernel_rfl) (by kernel_rfl) (fun _ _ _ h => h) (Or.inr ⟨by rfl, rfl⟩) hHeld ?_
          try simp only [Act.put, List.getElem_toArray, List.getElem_cons_succ, List.getElem_cons_zero, List.setIfInBounds_toArray, List.set_cons_zero, List.set_cons_succ]
          refine wpAnyH_take (i := 14) (v := undef) rfl (by kernel_rfl) (by kernel_rfl) (by kernel_rfl) (fun _ _ _ h => h) (Or.inr ⟨by rfl, rfl⟩) hHeld ?_
          try simp only [Act.put, List.getElem_toArray, List.getElem_cons_succ, List.getElem_cons_zero, List.setIfInBounds_toArray, List.set_cons_zero, List.set_cons_succ]
          refine wpAnyH_take (i := 15) (v := undef) rfl (by kernel_rfl) (by kernel_rfl) (by kernel_rfl) (fun _ _ _ h => h) (Or.inr ⟨by rfl, rfl⟩) hHeld ?_
          try simp only [Act.put, List.getElem_toArray, List.getElem_cons_succ, List.getElem_cons_zero, List.setIfInBounds_toArray, List.set_cons_zero, List.set_cons_succ]
          refine wpAnyH_take (i := 16) (v := ?_) rfl (by kernel_rfl) (by kernel_rfl) (by kernel_rfl) (fun _ _ _ h => h) (Or.inl ⟨by rfl, ?_⟩) hHeld ?_
          rotate_left
          · intro w' hSw; try dsimp only at hSw
            go_simp; try (with_reducible rfl)
          try simp only [Act.put, List.getElem_toArray, List.getElem_cons_succ, List.getElem_cons_zero, List.setIfInBounds_toArray, List.set_cons_zero, List.set_cons_succ]
          refine wpAnyH_done (by kernel_rfl) ?_ _
          refine NoPanic.normal ?_
          have h4 := hw.next hHeld
          obtain ⟨cs, hcl, hres⟩ := h4.res
          go_wp2_with ((guard_target = wpList _ _ _ (Oper.mk _ (Op.store 25 (Operand.tmp 4) _) _ _ _ _ :: _) _ _; refine wpList_store_blk rfl 25 (.tmp 4) (.tmp 39) rfl _ _ [.slice none 0 0, .slice none 0 0, .int .i64 0] rfl rfl hres (by rw [hcl]; exact Nat.le_refl _) (msSize ⟨none, 0, 0, none, 0, 0⟩ MS.zero) (msOne ⟨none, 0, 0, none, 0, 0⟩ MS.zero) ?_; intro w9 h9 ht9; rw [whole_row (by rw [hcl]; rfl)] at h9; replace h9 : Blk w9 (w.heap.size + 1) 25 (SV.cells ⟨none, 0, 0, none, 0, 0⟩ MS.zero) := h9))
          refine ret_msE Try.results21 rfl h9 rfl rfl ?_
          rw [E.out]
          exact ⟨_, rfl, ownS_zero _ _, ht9.below h4.bel (by omega)⟩
        | true =>
          have h0b := okMR_block hok
          by_cases hin : (eR l k).block < (n : Int)
          · have hge : ¬ (eR l k).block ≥ (n : Int) := by omega
            have HF : Hid (okFor n (eR l k) = true) := by show _ = _; unfold okFor; rw [hok, decide_eq_true hin]; rfl
            have EF : Hid ((l.take (k + 1)).foldl learnR s = learnR ((l.take k).foldl learnR s) (eR l k)) := by
              show _ = _
              rw [takeR_succ l k (by rw [HLl.out]; exact hlt), List.foldl_append]; rfl
            go_upto_region 8 with (fail)
            refine wp_region_noPanic ?_
            refine wp_region_held_drew (S := Below wr.heap.size wr) (by kernel_rfl) (Below.refl _ _).drew (fun hHeld => ?_)
            refine wpAnyH_take (i := 0) (v := ?_) rfl (by kernel_rfl) (by kernel_rfl) (by kernel_rfl) (fun _ _ _ h => h) (Or.inl ⟨by rfl, ?_⟩) hHeld ?_
            rotate_left
            · intro w' hSw; try dsimp only at hSw
              go_simp; try (with_reducible rfl)
            try simp only [Act.put, List.getElem_toArray, List.getElem_cons_succ, List.getElem_cons_zero, List.setIfInBounds_toArray, List.set_cons_zero, List.set_cons_succ]
            refine wpAnyH_take (i := 1) (v := ?_) rfl (by kernel_rfl) (by kernel_rfl) (by kernel_rfl) (fun _ _ _ h => h) (Or.inl ⟨by rfl, ?_⟩) hHeld ?_
            rotate_left
            · intro w' hSw; try dsimp only at hSw
              go_simp; try (with_reducible rfl)
            try simp only [Act.put, List.getElem_toArray, List.getElem_cons_succ, List.getElem_cons_zero, List.setIfInBounds_toArray, List.set_cons_zero, List.set_cons_succ]
            refine wpAnyH_take (i := 2) (v := ?_) rfl (by kernel_rfl) (by kernel_rfl) (by kernel_rfl) (fun _ _ _ h => h) (Or.inl ⟨by rfl, ?_⟩) hHeld ?_
            rotate_left
            · intro w' hSw; try dsimp only at hSw
              go_simp; try (with_reducible rfl)
            try simp only [Act.put, List.getElem_toArray, List.getElem_cons_succ, List.getElem_cons_zero, List.setIfInBounds_toArray, List.set_cons_zero, List.set_cons_succ]
            refine wpAnyH_take (i := 3) (v := ?_) rfl (by kernel_rfl) (by kernel_rfl) (by kernel_rfl) (fun _ _ _ h => h) (Or.inl ⟨by rfl, ?_⟩) hHeld ?_
            rotate_left
            · intro w' hSw; try dsimp only at hSw
              obtain ⟨qa, qb, qc⟩ := hrc _ hSw
              go_simp; try (with_reducible rfl)
            try simp only [Act.put, List.getElem_toArray, List.getElem_cons_succ, List.getElem_cons_zero, List.setIfInBounds_toArray, List.set_cons_zero, List.set_cons_succ]
            refine wpAnyH_ready (rs := [4]) (by kernel_rfl) (by simp) ?_
            refine AllReadyH.cons rfl (fun K hK => ?_) AllReadyH.nil
            go_simp
            refine (rmay_any (eR l k) _).mono ?_
            rintro e w4 ⟨rfl, hb4⟩
            rw [hok]
            try go_wp2_with fail
            refine hK.out _ _ (bt hHeld hb4) (fun hHeld => ?_)
            clear hK K
            try simp only [Act.put, List.getElem_toArray, List.getElem_cons_succ, List.getElem_cons_zero, List.setIfInBounds_toArray, List.set_cons_zero, List.set_cons_succ]
            refine wpAnyH_take (i := 5) (v := ?_) rfl (by kernel_rfl) (by kernel_rfl) (by kernel_rfl) (fun _ _ _ h => h) (Or.inl ⟨by rfl, ?_⟩) hHeld ?_
            rotate_left
            · intro w' hSw; try dsimp only at hSw
              go_simp; try (with_reducible rfl)
            try simp only [Act.put, List.getElem_toArray, List.getElem_cons_succ, List.getElem_cons_zero, List.setIfInBounds_toArray, List.set_cons_zero, List.set_cons_succ]
            refine wpAnyH_take (i := 6) (v := ?_) rfl (by kernel_rfl) (by kernel_rfl) (by kernel_rfl) (fun _ _ _ h => h) (Or.inl ⟨by rfl, ?_⟩) hHeld ?_
            rotate_left
            · intro w' hSw; try dsimp only at hSw
              go_simp; try (with_reducible rfl)
            try simp only [Act.put, List.getElem_toArray, List.getElem_cons_succ, List.getElem_cons_zero, List.setIfInBounds_toArray, List.set_cons_zero, List.set_cons_succ]
            refine wpAnyH_take (i := 7) (v := ?_) rfl (by kernel_rfl) (by kernel_rfl) (by kernel_rfl) (fun _ _ _ h => h) (Or.inl ⟨by rfl, ?_⟩) hHeld ?_
            rotate_left
            · intro w' hSw; try dsimp only at hSw
              go_simp; try (with_reducible rfl)
            try simp only [Act.put, List.getElem_toArray, List.getElem_cons_succ, List.getElem_cons_zero, List.setIfInBounds_toArray, List.set_cons_zero, List.set_cons_succ]
            refine wpAnyH_take (i := 8) (v := ?_) rfl (by kernel_rfl) (by kernel_rfl) (by kernel_rfl) (fun _ _ _ h => h) (Or.inl ⟨by rfl, ?_⟩) hHeld ?_
            rotate_left
            · intro w' hSw; try dsimp only at hSw
              go_simp; try (with_reducible rfl)
            try simp only [Act.put, List.getElem_toArray, List.getElem_cons_succ, List.getElem_cons_zero, List.setIfInBounds_toArray, List.set_cons_zero, List.set_cons_succ]
            refine wpAnyH_take (i := 9) (v := ?_) rfl (by kernel_rfl) (by kernel_rfl) (by kernel_rfl) (fun _ _ _ h => h) (Or.inl ⟨by rfl, ?_⟩) hHeld ?_
            rotate_left
            · intro w' hSw; try dsimp only at hSw
              go_simp; try (with_reducible rfl)
            try simp only [Act.put, List.getElem_toArray, List.getElem_cons_succ, List.getElem_cons_zero, List.setIfInBounds_toArray, List.set_cons_zero, List.set_cons_succ]
            refine wpAnyH_take (i := 10) (v := ?_) rfl (by kernel_rfl) (by kernel_rfl) (by kernel_rfl) (fun _ _ _ h => h) (Or.inl ⟨by rfl, ?_⟩) hHeld ?_
            rotate_left
            · intro w' hSw; try dsimp only at hSw
              go_simp; try (with_reducible rfl)
            try simp only [Act.put, List.getElem_toArray, List.getElem_cons_succ, List.getElem_cons_zero, List.setIfInBounds_toArray, List.set_cons_zero, List.set_cons_succ]
            refine wpAnyH_take (i := 11) (v := ?_) rfl (by kernel_rfl) (by kernel_rfl) (by kernel_rfl) (fun _ _ _ h => h) (Or.inl ⟨by rfl, ?_⟩) hHeld ?_
            rotate_left
            · intro w' hSw; try dsimp only at hSw
              obtain ⟨qa, qb, qc⟩ := hrc _ hSw
              go_simp; try (with_reducible rfl)
            try simp only [Act.put, List.getElem_toArray, List.getElem_cons_succ, List.getElem_cons_zero, List.setIfInBounds_toArray, List.set_cons_zero, List.set_cons_succ]
            refine wpAnyH_take (i := 12) (v := ?_) rfl (by kernel_rfl) (by kernel_rfl) (by kernel_rfl) (fun _ _ _ h => h) (Or.inl ⟨by rfl, ?_⟩) hHeld ?_
            rotate_left
            · intro w' hSw; try dsimp only at hSw
              go_simp; try (with_reducible rfl)
            try simp only [Act.put, List.getElem_toArray, List.getElem_cons_succ, List.getElem_cons_zero, List.setIfInBounds_toArray, List.set_cons_zero, List.set_cons_succ]
            refine wpAnyH_take (i := 13) (v := ?_) rfl (by kernel_rfl) (by kernel_rfl) (by kernel_rfl) (fun _ _ _ h => h) (Or.inl ⟨by rfl, ?_⟩) hHeld ?_
            rotate_left
            · intro w' hSw; try dsimp only at hSw
              obtain ⟨u0, u1, u2⟩ := (hw.box.kept hSw).cells3
              go_simp; try (with_reducible rfl)
            try simp only [Act.put, List.getElem_toArray, List.getElem_cons_succ, List.getElem_cons_zero, List.setIfInBounds_toArray, List.set_cons_zero, List.set_cons_succ]
            refine wpAnyH_take (i := 14) (v := ?_) rfl (by kernel_rfl) (by kernel_rfl) (by kernel_rfl) (fun _ _ _ h => h) (Or.inl ⟨by rfl, ?_⟩) hHeld ?_
            rotate_left
            · intro w' hSw; try dsimp only at hSw
              go_simp; try (with_reducible rfl)
            try simp only [Act.put, List.getElem_toArray, List.getElem_cons_succ, List.getElem_cons_zero, List.setIfInBounds_toArray, List.set_cons_zero, List.set_cons_succ]
            refine wpAnyH_take (i := 15) (v := ?_) rfl (by kernel_rfl) (by kernel_rfl) (by kernel_rfl) (fun _ _ _ h => h) (Or.inl ⟨by rfl, ?_⟩) hHeld ?_
            rotate_left
            · intro w' hSw; try dsimp only at hSw
              go_simp; try (with_reducible rfl)
            try simp only [Act.put, List.getElem_toArray, List.getElem_cons_succ, List.getElem_cons_zero, List.setIfInBounds_toArray, List.set_cons_zero, List.set_cons_succ]
            refine wpAnyH_take (i := 16) (v := ?_) rfl (by kernel_rfl) (by kernel_rfl) (by kernel_rfl) (fun _ _ _ h => h) (Or.inl ⟨by rfl, ?_⟩) hHeld ?_
            rotate_left
            · intro w' hSw; try dsimp only at hSw
              go_simp; try (with_reducible rfl)
            try simp only [Act.put, List.getElem_toArray, List.getElem_cons_succ, List.getElem_cons_zero, List.setIfInBounds_toArray, List.set_cons_zero, List.set_cons_succ]
            refine wpAnyH_done (by kernel_rfl) ?_ _
            refine NoPanic.normal ?_
            have hw5 := hw.next hHeld
            have hx5 := hx.next hHeld
            have hsz5 := Nat.le_trans hszr hHeld.size
            have hrc5 := hrc _ hHeld
            go_upto_region 10 with (fail)
            generalize w4 = W5 at *
            refine wp_region_noPanic ?_
            refine wp_region_held_drew (S := fun _ => True) (by kernel_rfl) trivial (fun hHeld => ?_)
            refine wpAnyH_take (i := 1) (v := ?_) rfl (by kernel_rfl) (by kernel_rfl) (by kernel_rfl) (fun _ _ _ h => h) (Or.inl ⟨by rfl, ?_⟩) hHeld ?_
            rotate_left
            · intro w' hSw; try dsimp only at hSw
              go_simp; try (with_reducible rfl)
            try simp only [Act.put, List.getElem_toArray, List.getElem_cons_succ, List.getElem_cons_zero, List.setIfInBounds_toArray, List.set_cons_zero, List.set_cons_succ]
            refine wpAnyH_take (i := 2) (v := ?_) rfl (by kernel_rfl) (by kernel_rfl) (by kernel_rfl) (fun _ _ _ h => h) (Or.inl ⟨by rfl, ?_⟩) hHeld ?_
            rotate_left
            · intro w' hSw; try dsimp only at hSw
              go_simp; try (with_reducible rfl)
            try simp only [Act.put, List.getElem_toArray, List.getElem_cons_succ, List.getElem_cons_zero, List.setIfInBounds_toArray, List.set_cons_zero, List.set_cons_succ]
            refine wpAnyH_take (i := 3) (v := ?_) rfl (by kernel_rfl) (by kernel_rfl) (by kernel_rfl) (fun _ _ _ h => h) (Or.inl ⟨by rfl, ?_⟩) hHeld ?_
            rotate_left
            · intro w' hSw; try dsimp only at hSw
              go_simp; try (with_reducible rfl)
            try simp only [Act.put, List.getElem_toArray, List.getElem_cons_succ, List.getElem_cons_zero, List.setIfInBounds_toArray, List.set_cons_zero, List.set_cons_succ]
            refine wpAnyH_ready (rs := [0, 4]) (by kernel_rfl) (by simp) ?_
            refine AllReadyH.cons rfl (fun K hK => ?_) ?_
            · obtain ⟨u0, u1, u2⟩ := hw5.box.drew.cells3
              go_simp
              refine hK.out _ _ trivial (fun hHeld => ?_)
              clear hK K
              try simp only [Act.put, List.getElem_toArray, List.getElem_cons_succ, List.getElem_cons_zero, List.setIfInBounds_toArray, List.set_cons_zero, List.set_cons_succ]
              refine wpAnyH_ready (rs := [4]) (by kernel_rfl) (by simp) ?_
              refine AllReadyH.cons rfl (fun K hK => ?_) AllReadyH.nil
              obtain ⟨qa, qb, qc⟩ := hrc5
              go_simp
              refine hK.out _ _ trivial (fun hHeld => ?_)
              clear hK K
              try simp only [Act.put, List.getElem_toArray, List.getElem_cons_succ, List.getElem_cons_zero, List.setIfInBounds_toArray, List.set_cons_zero, List.set_cons_succ]
              refine wpAnyH_ready (rs := [5]) (by kernel_rfl) (by simp) ?_
              refine AllReadyH.cons rfl (fun K hK => ?_) AllReadyH.nil
              go_simp
              refine (rone_any w1.heap.size ⟨p2, n, c2, q2, n, d2⟩ _ (eR l k) _ (hx5.next (Below.refl _ _).drew) rfl hsz5 h0b hin).mono ?_
              rintro e w6 ⟨rfl, hx6, hb6⟩
              try go_wp2_with fail
              refine hK.out _ _ trivial (fun hHeld => ?_)
              clear hK K
              try simp only [Act.put, List.getElem_toArray, List.getElem_cons_succ, List.getElem_cons_zero, List.setIfInBounds_toArray, List.set_cons_zero, List.set_cons_succ]
              refine wpAnyH_ready (rs := [6]) (by kernel_rfl) (by simp) ?_
              refine AllReadyH.cons rfl (fun K hK => ?_) AllReadyH.nil
              have hbx6 := (hw5.box.drew).below hb6 (by omega)
              obtain ⟨cs6, hcl6, hres6⟩ := hw5.res
              have hres6' := (hres6.drew).below hb6 (by omega)
              rw [if_pos (by rfl)]
              refine wp_store_blk 25 (.tmp 2) _ rfl _ _ [.slice p2 n c2, .slice q2 n d2, .int .i64 (learnR ((l.take k).foldl learnR s) (eR l k)).seq] rfl rfl hbx6 (by exact Nat.le_refl _) (msSize ⟨p2, n, c2, q2, n, d2⟩ (learnR ((l.take k).foldl learnR s) (eR l k))) (msOne ⟨p2, n, c2, q2, n, d2⟩ (learnR ((l.take k).foldl learnR s) (eR l k))) ?_
              intro w7 h7 ht7
              refine hK.out _ _ trivial (fun hHeld => ?_)
              clear hK K
              try simp only [Act.put, List.getElem_toArray, List.getElem_cons_succ, List.getElem_cons_zero, List.setIfInBounds_toArray, List.set_cons_zero, List.set_cons_succ]
              refine wpAnyH_done (by kernel_rfl) ?_ _
              refine NoPanic.normal ?_
              replace h7 : Blk w7 w.heap.size 25 (SV.cells ⟨p2, n, c2, q2, n, d2⟩ (learnR ((l.take k).foldl learnR s) (eR l k))) := h7
              have hx7 := hx6.turned ht7 (owns_blk_ne (by decide) hx6.b hbx6) (owns_blk_ne (by decide) hx6.v hbx6)
              have hw7 : PS w ⟨p2, n, c2, q2, n, d2⟩ (learnR ((l.take k).foldl learnR s) (eR l k)) w7 := ⟨ht7.below (hw5.bel.drew.trans (hb6.mono hlow)) (Nat.le_refl _), h7, cs6, hcl6, hres6'.turned ht7 (by omega)⟩
              have hsz7 : w1.heap.size ≤ w7.heap.size := by rw [ht7.size]; exact Nat.le_trans hsz5 hb6.size
              go_wp2_with fail
              go_roundw
              case rel =>
                refine ⟨k + 1, by omega, by go_num, by rw [EF.out]; exact hw7, by rw [EF.out]; exact hx7, hsz7, fun j hj => ?_⟩
                rcases Nat.lt_succ_iff_lt_or_eq.1 hj with h | h
                · exact HA.out j h
                · rw [h]; exact HF.out
              case measure => simp [intOf]; omega
            refine AllReadyH.cons rfl (fun K hK => ?_) AllReadyH.nil
            obtain ⟨qa, qb, qc⟩ := hrc5
            go_simp
            refine hK.out _ _ trivial (fun hHeld => ?_)
            clear hK K
            try simp only [Act.put, List.getElem_toArray, List.getElem_cons_succ, List.getElem_cons_zero, List.setIfInBounds_toArray, List.set_cons_zero, List.set_cons_succ]
            refine wpAnyH_ready (rs := [0]) (by kernel_rfl) (by simp) ?_
            refine AllReadyH.cons rfl (fun K hK => ?_) AllReadyH.nil
            obtain ⟨u0, u1, u2⟩ := hw5.box.drew.cells3
            go_simp
            refine hK.out _ _ trivial (fun hHeld => ?_)
            clear hK K
            try simp only [Act.put, List.getElem_toArray, List.getElem_cons_succ, List.getElem_cons_zero, List.setIfInBounds_toArray, List.set_cons_zero, List.set_cons_succ]
            refine wpAnyH_ready (rs := [5]) (by kernel_rfl) (by simp) ?_
            refine AllReadyH.cons rfl (fun K hK => ?_) AllReadyH.nil
            go_simp
            refine (rone_any w1.heap.size ⟨p2, n, c2, q2, n, d2⟩ _ (eR l k) _ (hx5.next (Below.refl _ _).drew) rfl hsz5 h0b hin).mono ?_
            rintro e w6 ⟨rfl, hx6, hb6⟩
            try go_wp2_with fail
            refine hK.out _ _ trivial (fun hHeld => ?_)
            clear hK K
            try simp only [Act.put, List.getElem_toArray, List.getElem_cons_succ, List.getElem_cons_zero, List.setIfInBounds_toArray, List.set_cons_zero, List.set_cons_succ]
            refine wpAnyH_ready (rs := [6]) (by kernel_rfl) (by simp) ?_
            refine AllReadyH.cons rfl (fun K hK => ?_) AllReadyH.nil
            have hbx6 := (hw5.box.drew).below hb6 (by omega)
            obtain ⟨cs6, hcl6, hres6⟩ := hw5.res
            have hres6' := (hres6.drew).below hb6 (by omega)
            rw [if_pos (by rfl)]
            refine wp_store_blk 25 (.tmp 2) _ rfl _ _ [.slice p2 n c2, .slice q2 n d2, .int .i64 (learnR ((l.take k).foldl learnR s) (eR l k)).seq] rfl rfl hbx6 (by exact Nat.le_refl _) (msSize ⟨p2, n, c2, q2, n, d2⟩ (learnR ((l.take k).foldl learnR s) (eR l k))) (msOne ⟨p2, n, c2, q2, n, d2⟩ (learnR ((l.take k).foldl learnR s) (eR l k))) ?_
            intro w7 h7 ht7
            refine hK.out _ _ trivial (fun hHeld => ?_)
            clear hK K
            try simp only [Act.put, List.getElem_toArray, List.getElem_cons_succ, List.getElem_cons_zero, List.setIfInBounds_toArray, List.set_cons_zero, List.set_cons_succ]
            refine wpAnyH_done (by kernel_rfl) ?_ _
            refine NoPanic.normal ?_
            replace h7 : Blk w7 w.heap.size 25 (SV.cells ⟨p2, n, c2, q2, n, d2⟩ (learnR ((l.take k).foldl learnR s) (eR l k))) := h7
            have hx7 := hx6.turned ht7 (owns_blk_ne (by decide) hx6.b hbx6) (owns_blk_ne (by decide) hx6.v hbx6)
            have hw7 : PS w ⟨p2, n, c2, q2, n, d2⟩ (learnR ((l.take k).foldl learnR s) (eR l k)) w7 := ⟨ht7.below (hw5.bel.drew.trans (hb6.mono hlow)) (Nat.le_refl _), h7, cs6, hcl6, hres6'.turned ht7 (by omega)⟩
            have hsz7 : w1.heap.size ≤ w7.heap.size := by rw [ht7.size]; exact Nat.le_trans hsz5 hb6.size
            go_wp2_with fail
            go_roundw
            case rel =>
              refine ⟨k + 1, by omega, by go_num, by rw [EF.out]; exact hw7, by rw [EF.out]; exact hx7, hsz7, fun j hj => ?_⟩
              rcases Nat.lt_succ_iff_lt_or_eq.1 hj with h | h
              · exact HA.out j h
              · rw [h]; exact HF.out
            case measure => simp [intOf]; omega
          · have hge : (eR l k).block ≥ (n : Int) := by omega
            have E : Hid (applyR s l = (MS.zero, 61)) := applyR_bad HOK.out (allR_not (by rw [HLl.out]; exact hlt) (okFor_no2 (by rw [HL.out]; exact hin)))
            go_upto_region 8 with (fail)
            refine wp_region_noPanic ?_
            refine wp_region_held_drew (S := Below wr.heap.size wr) (by kernel_rfl) (Below.refl _ _).drew (fun hHeld => ?_)
            refine wpAnyH_take (i := 0) (v := ?_) rfl (by kernel_rfl) (by kernel_rfl) (by kernel_rfl) (fun _ _ _ h => h) (Or.inl ⟨by rfl, ?_⟩) hHeld ?_
            rotate_left
            · intro w' hSw; try dsimp only at hSw
              go_simp; try (with_reducible rfl)
            try simp only [Act.put, List.getElem_toArray, List.getElem_cons_succ, List.getElem_cons_zero, List.setIfInBounds_toArray, List.set_cons_zero, List.set_cons_succ]
            refine wpAnyH_take (i := 1) (v := ?_) rfl (by kernel_rfl) (by kernel_rfl) (by kernel_rfl) (fun _ _ _ h => h) (Or.inl ⟨by rfl, ?_⟩) hHeld ?_
            rotate_left
            · intro w' hSw; try dsimp only at hSw
              go_simp; try (with_reducible rfl)
            try simp only [Act.put, List.getElem_toArray, List.getElem_cons_succ, List.getElem_cons_zero, List.setIfInBounds_toArray, List.set_cons_zero, List.set_cons_succ]
            refine wpAnyH_take (i := 2) (v := ?_) rfl (by kernel_rfl) (by kernel_rfl) (by kernel_rfl) (fun _ _ _ h => h) (Or.inl ⟨by rfl, ?_⟩) hHeld ?_
            rotate_left
            · intro w' hSw; try dsimp only at hSw
              go_simp; try (with_reducible rfl)
            try simp only [Act.put, List.getElem_toArray, List.getElem_cons_succ, List.getElem_cons_zero, List.setIfInBounds_toArray, List.set_cons_zero, List.set_cons_succ]
            refine wpAnyH_take (i := 3) (v := ?_) rfl (by kernel_rfl) (by kernel_rfl) (by kernel_rfl) (fun _ _ _ h => h) (Or.inl ⟨by rfl, ?_⟩) hHeld ?_
            rotate_left
            · intro w' hSw; try dsimp only at hSw
              obtain ⟨qa, qb, qc⟩ := hrc _ hSw
              go_simp; try (with_reducible rfl)
            try simp only [Act.put, List.getElem_toArray, List.getElem_cons_succ, List.getElem_cons_zero, List.setIfInBounds_toArray, List.set_cons_zero, List.set_cons_succ]
            refine wpAnyH_ready (rs := [4]) (by kernel_rfl) (by simp) ?_
            refine AllReadyH.cons rfl (fun K hK => ?_) AllReadyH.nil
            go_simp
            refine (rmay_any (eR l k) _).mono ?_
            rintro e w4 ⟨rfl, hb4⟩
            rw [hok]
            try go_wp2_with fail
            refine hK.out _ _ (bt hHeld hb4) (fun hHeld => ?_)
            clear hK K
            try simp only [Act.put, List.getElem_toArray, List.getElem_cons_succ, List.getElem_cons_zero, List.setIfInBounds_toArray, List.set_cons_zero, List.set_cons_succ]
            refine wpAnyH_take (i := 5) (v := ?_) rfl (by kernel_rfl) (by kernel_rfl) (by kernel_rfl) (fun _ _ _ h => h) (Or.inl ⟨by rfl, ?_⟩) hHeld ?_
            rotate_left
            · intro w' hSw; try dsimp only at hSw
              go_simp; try (with_reducible rfl)
            try simp only [Act.put, List.getElem_toArray, List.getElem_cons_succ, List.getElem_cons_zero, List.setIfInBounds_toArray, List.set_cons_zero, List.set_cons_succ]
            refine wpAnyH_take (i := 6) (v := ?_) rfl (by kernel_rfl) (by kernel_rfl) (by kernel_rfl) (fun _ _ _ h => h) (Or.inl ⟨by rfl, ?_⟩) hHeld ?_
            rotate_left
            · intro w' hSw; try dsimp only at hSw
              go_simp; try (with_reducible rfl)
            try simp only [Act.put, List.getElem_toArray, List.getElem_cons_succ, List.getElem_cons_zero, List.setIfInBounds_toArray, List.set_cons_zero, List.set_cons_succ]
            refine wpAnyH_take (i := 7) (v := ?_) rfl (by kernel_rfl) (by kernel_rfl) (by kernel_rfl) (fun _ _ _ h => h) (Or.inl ⟨by rfl, ?_⟩) hHeld ?_
            rotate_left
            · intro w' hSw; try dsimp only at hSw
              go_simp; try (with_reducible rfl)
            try simp only [Act.put, List.getElem_toArray, List.getElem_cons_succ, List.getElem_cons_zero, List.setIfInBounds_toArray, List.set_cons_zero, List.set_cons_succ]
            refine wpAnyH_take (i := 8) (v := ?_) rfl (by kernel_rfl) (by kernel_rfl) (by kernel_rfl) (fun _ _ _ h => h) (Or.inl ⟨by rfl, ?_⟩) hHeld ?_
            rotate_left
            · intro w' hSw; try dsimp only at hSw
              go_simp; try (with_reducible rfl)
            try simp only [Act.put, List.getElem_toArray, List.getElem_cons_succ, List.getElem_cons_zero, List.setIfInBounds_toArray, List.set_cons_zero, List.set_cons_succ]
            refine wpAnyH_take (i := 9) (v := ?_) rfl (by kernel_rfl) (by kernel_rfl) (by kernel_rfl) (fun _ _ _ h => h) (Or.inl ⟨by rfl, ?_⟩) hHeld ?_
            rotate_left
            · intro w' hSw; try dsimp only at hSw
              go_simp; try (with_reducible rfl)
            try simp only [Act.put, List.getElem_toArray, List.getElem_cons_succ, List.getElem_cons_zero, List.setIfInBounds_toArray, List.set_cons_zero, List.set_cons_succ]
            refine wpAnyH_take (i := 10) (v := ?_) rfl (by kernel_rfl) (by kernel_rfl) (by kernel_rfl) (fun _ _ _ h => h) (Or.inl ⟨by rfl, ?_⟩) hHeld ?_
            rotate_left
            · intro w' hSw; try dsimp only at hSw
              go_simp; try (with_reducible rfl)
            try simp only [Act.put, List.getElem_toArray, List.getElem_cons_succ, List.getElem_cons_zero, List.setIfInBounds_toArray, List.set_cons_zero, List.set_cons_succ]
            refine wpAnyH_take (i := 11) (v := ?_) rfl (by kernel_rfl) (by kernel_rfl) (by kernel_rfl) (fun _ _ _ h => h) (Or.inl ⟨by rfl, ?_⟩) hHeld ?_
            rotate_left
            · intro w' hSw; try dsimp only at hSw
              obtain ⟨qa, qb, qc⟩ := hrc _ hSw
              go_simp; try (with_reducible rfl)
            try simp only [Act.put, List.getElem_toArray, List.getElem_cons_succ, List.getElem_cons_zero, List.setIfInBounds_toArray, List.set_cons_zero, List.set_cons_succ]
            refine wpAnyH_take (i := 12) (v := ?_) rfl (by kernel_rfl) (by kernel_rfl) (by kernel_rfl) (fun _ _ _ h => h) (Or.inl ⟨by rfl, ?_⟩) hHeld ?_
            rotate_left
            · intro w' hSw; try dsimp only at hSw
              go_simp; try (with_reducible rfl)
            try simp only [Act.put, List.getElem_toArray, List.getElem_cons_succ, List.getElem_cons_zero, List.setIfInBounds_toArray, List.set_cons_zero, List.set_cons_succ]
            refine wpAnyH_take (i := 13) (v := ?_) rfl (by kernel_rfl) (by kernel_rfl) (by kernel_rfl) (fun _ _ _ h => h) (Or.inl ⟨by rfl, ?_⟩) hHeld ?_
            rotate_left
            · intro w' hSw; try dsimp only at hSw
              obtain ⟨u0, u1, u2⟩ := (hw.box.kept hSw).cells3
              go_simp; try (with_reducible rfl)
            try simp only [Act.put, List.getElem_toArray, List.getElem_cons_succ, List.getElem_cons_zero, List.setIfInBounds_toArray, List.set_cons_zero, List.set_cons_succ]
            refine wpAnyH_take (i := 14) (v := ?_) rfl (by kernel_rfl) (by kernel_rfl) (by kernel_rfl) (fun _ _ _ h => h) (Or.inl ⟨by rfl, ?_⟩) hHeld ?_
            rotate_left
            · intro w' hSw; try dsimp only at hSw
              go_simp; try (with_reducible rfl)
            try simp only [Act.put, List.getElem_toArray, List.getElem_cons_succ, List.getElem_cons_zero, List.setIfInBounds_toArray, List.set_cons_zero, List.set_cons_succ]
            refine wpAnyH_take (i := 15) (v := ?_) rfl (by kernel_rfl) (by kernel_rfl) (by kernel_rfl) (fun _ _ _ h => h) (Or.inl ⟨by rfl, ?_⟩) hHeld ?_
            rotate_left
            · intro w' hSw; try dsimp only at hSw
              go_simp; try (with_reducible rfl)
            try simp only [Act.put, List.getElem_toArray, List.getElem_cons_succ, List.getElem_cons_zero, List.setIfInBounds_toArray, List.set_cons_zero, List.set_cons_succ]
            refine wpAnyH_take (i := 16) (v := ?_) rfl (by kernel_rfl) (by kernel_rfl) (by kernel_rfl) (fun _ _ _ h => h) (Or.inl ⟨by rfl, ?_⟩) hHeld ?_
            rotate_left
            · intro w' hSw; try dsimp only at hSw
              go_simp; try (with_reducible rfl)
            try simp only [Act.put, List.getElem_toArray, List.getElem_cons_succ, List.getElem_cons_zero, List.setIfInBounds_toArray, List.set_cons_zero, List.set_cons_succ]
            refine wpAnyH_done (by kernel_rfl) ?_ _
            refine NoPanic.normal ?_
            have h4 := hw.next hHeld
            obtain ⟨cs, hcl, hres⟩ := h4.res
            go_wp2_with ((guard_target = wpList _ _ _ (Oper.mk _ (Op.store 25 (Operand.tmp 4) _) _ _ _ _ :: _) _ _; refine wpList_store_blk rfl 25 (.tmp 4) (.tmp 39) rfl _ _ [.slice none 0 0, .slice none 0 0, .int .i64 0] rfl rfl hres (by rw [hcl]; exact Nat.le_refl _) (msSize ⟨none, 0, 0, none, 0, 0⟩ MS.zero) (msOne ⟨none, 0, 0, none, 0, 0⟩ MS.zero) ?_; intro w9 h9 ht9; rw [whole_row (by rw [hcl]; rfl)] at h9; replace h9 : Blk w9 (w.heap.size + 1) 25 (SV.cells ⟨none, 0, 0, none, 0, 0⟩ MS.zero) := h9))
            refine ret_msE Try.results21 rfl h9 rfl rfl ?_
            rw [E.out]
            exact ⟨_, rfl, ownS_zero _ _, ht9.below h4.bel (by omega)⟩
      · have hkN : k = N := by omega
        have E : Hid (applyR s l = ((l.take k).foldl learnR s, 0)) := by
          show _ = _
          rw [applyR_ok HOK.out (eR_all.2 fun j hj => by rw [HL.out]; exact HA.out j (by have := HLl.out; omega)), List.take_of_length_le (by have := HLl.out; omega)]
        clear hkN
        generalize (l.take k).foldl learnR s = T at *
        obtain ⟨y0, y1, y2⟩ := hw.box.cells3
        obtain ⟨cs, hcl, hres⟩ := hw.res
        go_wp2_with (guard_target = wpList _ _ _ (Oper.mk _ (Op.store 25 (Operand.tmp 4) _) _ _ _ _ :: _) _ _; refine wpList_store_blk rfl 25 (.tmp 4) (.tmp 46) rfl _ _ [.slice p2 n c2, .slice q2 n d2, .int .i64 T.seq] rfl rfl hres (by rw [hcl]; exact Nat.le_refl _) (msSize ⟨p2, n, c2, q2, n, d2⟩ T) (msOne ⟨p2, n, c2, q2, n, d2⟩ T) ?_; intro w9 h9 ht9; rw [whole_row (by rw [hcl]; rfl)] at h9; replace h9 : Blk w9 (w.heap.size + 1) 25 (SV.cells ⟨p2, n, c2, q2, n, d2⟩ T) := h9)
        refine ret_msE Try.results21 rfl h9 rfl rfl ?_
        rw [E.out]
        exact ⟨_, rfl, (hx.turned ht9 (owns_blk_ne (by decide) hx.b hres) (owns_blk_ne (by decide) hx.v hres)).low hlow, ht9.below hw.bel (by omega)⟩
end Go.Proofs.Ytpikaagdiafieaa
