/-
  What Erase does: the walk.
-/
import Derived.Test.YthafcnilhloldaaNErase
namespace Go.Proofs.Ythafcnilhloldaa
open Go.RowKit Go.Shelf
set_option linter.unusedSimpArgs false in
set_option maxRecDepth 100000 in
set_option maxHeartbeats 4000000 in
theorem erase_any (c : Nat) (s : St) (bb : Nat) (PV : Nat → Value) (b : Int) (w : World) (h : ChipIn w c s bb PV) (ho : s.ops < 4611686018427387904) :
    Calls Try.prog 15 #[.pointer (some ⟨c, 0, none⟩), .int .i64 b] w fun e w' => e = .returned (.int .i64 (eraseE s b)) ∧ After w w' c s (eraseSt s b) bb PV := by
  obtain ⟨ep, el, ec, hc, he⟩ := h.chip
  have hr := reach_any c _ s.nb s.np s.cr s.on b 0 w (by have := h.nbl; omega) (hc.cell' (i := 2) rfl) (hc.cell' (i := 1) rfl) (hc.cell' (i := 5) rfl)
  by_cases h0 : reachE s.nb s.np s.on b 0 = 0
  · rw [h0] at hr
    obtain ⟨bk, hbk, rfl⟩ : ∃ bk : Nat, bk < s.nb ∧ b = (bk : Int) := by obtain ⟨bk, _, hb, _, hbk, _⟩ := reach_ok h0; exact ⟨bk, hbk, hb⟩
    obtain ⟨BC, hB, hl, hcell⟩ := h.blks
    obtain ⟨K, hK⟩ := h.get bk hbk
    obtain ⟨q0, q1, q2, q3⟩ := hcell bk K hK
    have hc2 := hc.cell' (i := 2) rfl
    have d3 := hB.cell' q3
    have hlim := h.lim K (List.mem_of_getElem? hK)
    by_cases hbad : K.bad = true
    · have e1 : eraseE s bk = 23 := by unfold eraseE; rw [if_pos h0]; simp [hK, hbad]
      have e2 : eraseSt s bk = s := by unfold eraseSt; rw [if_pos h0]; simp [hK, hbad]
      rw [e1, e2]
      rw [hbad] at d3
      clear e1 e2 h0
      go_enter Try.func15, Try.ntmps15
      go_wp2_with (go_at_call 37; refine hr.mono ?_; rintro e W0 ⟨rfl, hW0⟩; have hW1 := hW0.symm; subst hW1)
      go_ret
      exact ⟨rfl, After.refused h (Below.refl _ _)⟩
    · have hbad' : K.bad = false := by simpa using hbad
      rw [hbad'] at d3
      have e1 : eraseE s bk = outE (nextEv s.ev (s.ops + 1)).kind := by unfold eraseE; rw [if_pos h0]; simp [hK, hbad']
      have e2 : eraseSt s bk = stepSt s bk (erasedB s.np K (nextEv s.ev (s.ops + 1))) := by unfold eraseSt; rw [if_pos h0]; simp [hK, hbad']
      rw [e1, e2]
      have hEv := he.mono (T := fun k => fpN c bb PV s.nb w.heap.size k ∨ s.z k) (fun k hk e => e.elim (fun e => e.elim .inl (fun e => by omega)) .inr)
      have hbeg := begin_any c s.nb s.np _ ep el ec s.ops s.on s.ev (fun k => fpN c bb PV s.nb w.heap.size k ∨ s.z k) _ hc hEv (.inl (.inl (.inl rfl))) ho
      clear e1 e2 h0
      have hcl := hc.lt
      have hbl := hB.lt
      have hpl := h.npl
      have hler := h.ler
      have hnb4 : bk * 4 + 3 < BC.length := by rw [hl]; omega
      have hpg := h.pg bk K hK
      have hwear : K.wear < 4611686018427387905 := by omega
      unfold evVal at hbeg
      generalize nextEv s.ev (s.ops + 1) = E at *
      have hout := outcome_any E.kind
      by_cases hk1 : E.kind = 1
      · have e3 : erasedB s.np K E = { pages := trimP (tornPs s.np K E.mask), wear := K.wear + 1, next := s.np, bad := true } := by unfold erasedB; rw [if_pos hk1]
        rw [e3]
        have HKD : Hid (E.kind = 1) := hk1
        rw [hk1] at hbeg hout ⊢
        clear hk1 e3
        go_enter Try.func15, Try.ntmps15
        go_wp2_with (first
          | (go_at_call 37; refine hr.mono ?_; rintro e W0 ⟨rfl, hW0⟩; have hW1 := hW0.symm; subst hW1)
          | (go_at_call 38; refine hbeg.mono ?_; rintro e w1 ⟨q, m, d, rfl, hin1, hq1, hkp1, ep', el', ec', hc1, he1⟩; clear hbeg hr; have hs1 := hkp1.size; have hB1 := (hB.keep hkp1 (fun e => h.ne e.symm)).alloc (.cells #[.int .i64 E.at', .int .i64 1, .slice q m d] 72); have c1 := hB1.cell' q1; have f1 := hB1.frozen (bk * 4 + 1); have c3 := hB1.cell' q3; have f3 := hB1.frozen (bk * 4 + 3); have hV1 := Blk.new' w1 72 #[.int .i64 E.at', .int .i64 1, .slice q m d]; have n1 := hV1.cell' (i := 1) rfl; have hbw1 : bb ≠ w1.heap.size := by omega))
        have hB3 := (hB1.set (bk * 4 + 1) (.int .i64 ((K.wear : Int) + 1))).set (bk * 4 + 1 + 2) (.bool true)
        have hV3 := (hV1.setOther ⟨bb, bk * 4 + 1, none⟩ (.int .i64 ((K.wear : Int) + 1)) hbw1.symm).setOther ⟨bb, bk * 4 + 1 + 2, none⟩ (.bool true) hbw1.symm
        have hk13 : Keep (fun k => k = bb ∨ w.heap.size ≤ k) w1 (((w1.alloc (.cells #[.int .i64 E.at', .int .i64 1, .slice q m d] 72)).setCell ⟨bb, bk * 4 + 1, none⟩ (.int .i64 ((K.wear : Int) + 1))).setCell ⟨bb, bk * 4 + 1 + 2, none⟩ (.bool true)) := (((Keep.of_below (below_alloc w1 _)).setCell _ _ (.inl rfl)).setCell _ _ (.inl rfl))
        have hRm := (RowAt.first hnb4 q0 q2 q3).turnBad hnb4
        generalize ((w1.alloc (.cells #[.int .i64 E.at', .int .i64 1, .slice q m d] 72)).setCell ⟨bb, bk * 4 + 1, none⟩ (.int .i64 ((K.wear : Int) + 1))).setCell ⟨bb, bk * 4 + 1 + 2, none⟩ (.bool true) = W3 at *
        generalize hBCm : (BC.set (bk * 4 + 1) (.int .i64 ((K.wear : Int) + 1))).set (bk * 4 + 1 + 2) (.bool true) = BCm at *
        clear hBCm hV1 hB1 c1 f1 c3 f3 n1
        have s3 := hk13.size
        have hpg3 : PagesIn W3 (PV bk) K.pages := (hpg.same (fun k hk => hkp1.block k (hpg.lt hk) (h.nec bk hbk k hk).1)).same (fun k hk => hk13.block k (by have := hpg.lt hk; omega) (fun e => e.elim (fun e => (h.nec bk hbk k hk).2 e) (fun e => by have := hpg.lt hk; omega)))
        have hin3 : In W3 q m d E.mask := hin1.same s3 (fun a hm hq hlt => hk13.block _ hlt (fun e => hq1 a hm hq (.inl (e.elim (fun e => .inl (.inr (.inl e))) .inr))))
        have hAm : After w W3 c s (stepSt s bk { K with wear := K.wear + 1, bad := true }) bb PV := op_end h hbk hcell hl hkp1 hc1 he1 hk13 hB3 hRm hpg3 (fun k hk => .inl hk) ⟨hlim.1, hlim.2.1, by show K.wear + 1 ≤ s.ops + 1; omega⟩
        obtain ⟨PVm, hCm, _, _⟩ := hAm
        have hpo : pagesOf (stepSt s bk { K with wear := K.wear + 1, bad := true }) (bk : Int) = allP s.np K := by
          have hbx : blkAt (stepSt s bk { K with wear := K.wear + 1, bad := true }) (bk : Int) = some { K with wear := K.wear + 1, bad := true } := by rw [blkAt_nat]; show (s.bl.set bk _)[bk]? = _; rw [List.getElem?_set_self (by rw [h.bll]; exact hbk)]
          unfold pagesOf; rw [hbx]; rfl
        have hpa := pages_any c _ bb PVm (bk : Int) W3.drew (hCm.below ((Below.refl _ _).drew))
        rw [hpo] at hpa
        have hAP := allP_isP hpg s.np
        have hTP : ∀ p ∈ tornPs s.np K E.mask, IsP p := chunk_isP (by rw [maskL_length, flat_length hAP, allP_length]) (maskL_byte (flat_byte hAP) hin1.byte)
        have HTL : Hid ((tornPs s.np K E.mask).length = s.np) := chunk_length _ _
        have HTF : Hid ((tornPs s.np K E.mask).flatten = maskL (allP s.np K).flatten E.mask) := chunk_all (by rw [maskL_length, flat_length hAP, allP_length])
        have HTT : Hid ((trimP (tornPs s.np K E.mask)).length ≤ s.np) := by have := trimP_length (tornPs s.np K E.mask); rw [HTL.out] at this; exact this
        obtain ⟨pp, hpp⟩ := toPages hAP
        have HPL : Hid (pp.length = s.np) := by show _ = _; rw [← List.length_map (f := (·.1)), hpp, allP_length]
        obtain ⟨TP, hTP0⟩ : ∃ TP, tornPs s.np K E.mask = TP := ⟨_, rfl⟩
        have HTE : Hid (tornPs s.np K E.mask = TP) := hTP0
        rw [hTP0] at hTP HTL HTF HTT
        clear hTP0
        have hnp32 : s.np ≤ 32 := hpl.2
        clear hCm hpo hpg3 hAP q0 q1 q2 q3 hc2 d3
        generalize hV : w1.heap.size = V at *
        clear hV
        refine wp_region_noPanic ?_
        refine wp_region_held_drew (S := fun w' => Blk w' V 72 [.int .i64 E.at', .int .i64 1, .slice q m d]) (by kernel_rfl) hV3.drew (fun hHeld => ?_)
        refine wpAnyH_take (i := 0) (v := ?_) rfl (by kernel_rfl) (by kernel_rfl) (by kernel_rfl) (fun _ _ _ h => h) (Or.inl ⟨by rfl, ?_⟩) hHeld ?_
        rotate_left
        · intro w hSw; try dsimp only at hSw
          go_simp; try (with_reducible rfl)
        try simp only [Act.put, List.getElem_toArray, List.getElem_cons_succ, List.getElem_cons_zero, List.setIfInBounds_toArray, List.set_cons_zero, List.set_cons_succ]
        refine wpAnyH_take (i := 1) (v := ?_) rfl (by kernel_rfl) (by kernel_rfl) (by kernel_rfl) (fun _ _ _ h => h) (Or.inl ⟨by rfl, ?_⟩) hHeld ?_
        rotate_left
        · intro w hSw; try dsimp only at hSw
          go_simp; try (with_reducible rfl)
        try simp only [Act.put, List.getElem_toArray, List.getElem_cons_succ, List.getElem_cons_zero, List.setIfInBounds_toArray, List.set_cons_zero, List.set_cons_succ]
        refine wpAnyH_take (i := 2) (v := ?_) rfl (by kernel_rfl) (by kernel_rfl) (by kernel_rfl) (fun _ _ _ h => h) (Or.inl ⟨by rfl, ?_⟩) hHeld ?_
        rotate_left
        · intro w hSw; try dsimp only at hSw
          go_simp; try (with_reducible rfl)
        try simp only [Act.put, List.getElem_toArray, List.getElem_cons_succ, List.getElem_cons_zero, List.setIfInBounds_toArray, List.set_cons_zero, List.set_cons_succ]
        refine wpAnyH_take (i := 4) (v := ?_) rfl (by kernel_rfl) (by kernel_rfl) (by kernel_rfl) (fun _ _ _ h => h) (Or.inl ⟨by rfl, ?_⟩) hHeld ?_
        rotate_left
        · intro w hSw; try dsimp only at hSw
          go_simp; try (with_reducible rfl)
        try simp only [Act.put, List.getElem_toArray, List.getElem_cons_succ, List.getElem_cons_zero, List.setIfInBounds_toArray, List.set_cons_zero, List.set_cons_succ]
        refine wpAnyH_take (i := 5) (v := ?_) rfl (by kernel_rfl) (by kernel_rfl) (by kernel_rfl) (fun _ _ _ h => h) (Or.inl ⟨by rfl, ?_⟩) hHeld ?_
        rotate_left
        · intro w hSw; try dsimp only at hSw
          have o1 := hSw.cell' (i := 2) rfl
          go_simp; try (with_reducible rfl)
        try simp only [Act.put, List.getElem_toArray, List.getElem_cons_succ, List.getElem_cons_zero, List.setIfInBounds_toArray, List.set_cons_zero, List.set_cons_succ]
        refine wpAnyH_ready (rs := [3]) (by kernel_rfl) (by simp) ?_
        refine AllReadyH.cons rfl (fun K hK => ?_) AllReadyH.nil
        go_simp
        refine hpa.mono ?_
        rintro e X1 ⟨Bs, vP, rfl, hBs, hcv, hpv, hov, hx1⟩
        have htn := torn_any Bs vP pp q m d E.mask X1 hcv (by rw [hpp]; exact hpv) (hin3.below ((Below.refl _ _).drew.trans hx1)) (by rw [HPL.out]; omega)
        rw [HPL.out, hpp] at htn
        clear hpa hcv hpv
        try go_wp2_with fail
        refine hK.out _ _ (hHeld.kept hx1) (fun hHeld => ?_)
        clear hK K
        try simp only [Act.put, List.getElem_toArray, List.getElem_cons_succ, List.getElem_cons_zero, List.setIfInBounds_toArray, List.set_cons_zero, List.set_cons_succ]
        refine wpAnyH_ready (rs := [6]) (by kernel_rfl) (by simp) ?_
        refine AllReadyH.cons rfl (fun K hK => ?_) AllReadyH.nil
        go_simp
        refine htn.mono ?_
        rintro e X2 ⟨g, rfl, hgX, hblk, hx2⟩
        rw [← HTF.out] at hblk
        have htr := trim_any g s.np TP X2 hTP HTL.out hnp32 hblk
        clear htn hblk
        try go_wp2_with fail
        refine hK.out _ _ (hHeld.kept hx2) (fun hHeld => ?_)
        clear hK K
        try simp only [Act.put, List.getElem_toArray, List.getElem_cons_succ, List.getElem_cons_zero, List.setIfInBounds_toArray, List.set_cons_zero, List.set_cons_succ]
        refine wpAnyH_ready (rs := [7]) (by kernel_rfl) (by simp) ?_
        refine AllReadyH.cons rfl (fun K hK => ?_) AllReadyH.nil
        go_simp
        refine htr.mono ?_
        rintro e X3 ⟨v4, rfl, hp4, hv4, hx3⟩
        obtain ⟨p4, cap4, hv4e, _⟩ := hp4.shape
        generalize (trimP TP).length = n4 at hv4e
        subst hv4e
        clear htr
        try go_wp2_with fail
        refine hK.out _ _ (hHeld.kept hx3) (fun hHeld => ?_)
        clear hK K
        try simp only [Act.put, List.getElem_toArray, List.getElem_cons_succ, List.getElem_cons_zero, List.setIfInBounds_toArray, List.set_cons_zero, List.set_cons_succ]
        have hx13 : Below W3.heap.size W3 X3 := bt (bt ((Below.refl _ _).drew.trans hx1) hx2) hx3
        have hBX := hB3.kept hx13
        have b0 := hBX.cell' hRm.own.1
        have g0 := hBX.frozen (bk * 4)
        have sX1 := hx1.size
        have sX2 := hx2.size
        have sX3 := hx3.size
        refine wpAnyH_take (i := 8) (v := ?_) rfl (by kernel_rfl) (by kernel_rfl) (by kernel_rfl) (fun _ _ _ h => h) (Or.inl ⟨by rfl, ?_⟩) hHeld ?_
        rotate_left
        · intro w hSw; try dsimp only at hSw
          go_simp; try (with_reducible rfl)
        try simp only [Act.put, List.getElem_toArray, List.getElem_cons_succ, List.getElem_cons_zero, List.setIfInBounds_toArray, List.set_cons_zero, List.set_cons_succ]
        refine wpAnyH_take (i := 9) (v := ?_) rfl (by kernel_rfl) (by kernel_rfl) (by kernel_rfl) (fun _ _ _ h => h) (Or.inl ⟨by rfl, ?_⟩) hHeld ?_
        rotate_left
        · intro w hSw; try dsimp only at hSw
          go_simp; try (with_reducible rfl)
        try simp only [Act.put, List.getElem_toArray, List.getElem_cons_succ, List.getElem_cons_zero, List.setIfInBounds_toArray, List.set_cons_zero, List.set_cons_succ]
        refine wpAnyH_ready (rs := [10]) (by kernel_rfl) (by simp) ?_
        refine AllReadyH.cons rfl (fun K hK => ?_) AllReadyH.nil
        go_simp
        refine hK.out _ _ (hHeld.setOther ⟨bb, bk * 4, none⟩ (.slice p4 n4 cap4) hbw1.symm) (fun hHeld => ?_)
        clear hK K
        try simp only [Act.put, List.getElem_toArray, List.getElem_cons_succ, List.getElem_cons_zero, List.setIfInBounds_toArray, List.set_cons_zero, List.set_cons_succ]
        refine wpAnyH_done (by kernel_rfl) ?_ _
        refine NoPanic.normal ?_
        have hk19 : Keep (fun k => k = bb ∨ w.heap.size ≤ k) w1 (X3.setCell ⟨bb, bk * 4, none⟩ (.slice p4 n4 cap4)) := (hk13.trans (Keep.of_below (S := fun _ => False) hx13) (fun _ _ e => e.elim)).setCell _ _ (.inl rfl)
        have hc9 := (hc1.keep hk19 (fun e => e.elim (fun e => h.ne e) (fun e => by omega))).cell' (i := 1) rfl
        have hB9 := hBX.set (bk * 4) (.slice p4 n4 cap4)
        have b2 := hB9.cell' (i := bk * 4 + 2) (by rw [List.getElem?_set_ne (by omega)]; exact hRm.own.2.2.1)
        have g2 := hB9.frozen (bk * 4 + 2)
        have n9 := hHeld.cell' (i := 1) rfl
        clear b0 g0
        have hvb : ∀ k, (Value.slice p4 n4 cap4).ownBlock = some k → k ≠ bb := fun k hk => by have := hv4 k hk; have : W3.drew.heap.size = W3.heap.size := rfl; omega
        have hp9 : PagesIn (X3.setCell ⟨bb, bk * 4, none⟩ (.slice p4 n4 cap4)) (.slice p4 n4 cap4) (trimP TP) := hp4.same (fun k hk => heap_setCell_other _ _ _ _ (hvb k hk))
        generalize X3.setCell ⟨bb, bk * 4, none⟩ (.slice p4 n4 cap4) = X9 at *
        go_wp2_with (go_at_call 41; refine (hout _).mono ?_; rintro e w' ⟨rfl, rfl⟩)
        go_ret
        refine ⟨rfl, ?_⟩
        rw [HTE.out]
        exact op_end h hbk hcell hl hkp1 hc1 he1 (hk19.setCell _ _ (.inl rfl)) (hB9.set (bk * 4 + 1 + 1) _) (hRm.put hnb4 (trimP TP) s.np _ rfl) (hp9.same (fun k hk => heap_setCell_other _ _ _ _ (hvb k hk))) (fun k hk => .inr (by have := hv4 k hk; have : W3.drew.heap.size = W3.heap.size := rfl; omega)) ⟨HTT.out, Nat.le_refl _, by show K.wear + 1 ≤ s.ops + 1; omega⟩
      · by_cases hk2 : E.kind = 2
        · have e3 : erasedB s.np K E = { pages := trimP (tornPs s.np K E.mask), wear := K.wear + 1, next := s.np, bad := K.bad } := by unfold erasedB; rw [if_neg hk1, if_pos hk2]
          rw [e3]
          have HKD : Hid (E.kind = 2) := hk2
          rw [hk2] at hbeg hout ⊢
          clear hk1 hk2 e3
          go_enter Try.func15, Try.ntmps15
          go_wp2_with (first
            | (go_at_call 37; refine hr.mono ?_; rintro e W0 ⟨rfl, hW0⟩; have hW1 := hW0.symm; subst hW1)
            | (go_at_call 38; refine hbeg.mono ?_; rintro e w1 ⟨q, m, d, rfl, hin1, hq1, hkp1, ep', el', ec', hc1, he1⟩; clear hbeg hr; have hs1 := hkp1.size; have hB1 := (hB.keep hkp1 (fun e => h.ne e.symm)).alloc (.cells #[.int .i64 E.at', .int .i64 2, .slice q m d] 72); have c1 := hB1.cell' q1; have f1 := hB1.frozen (bk * 4 + 1); have c3 := hB1.cell' q3; have f3 := hB1.frozen (bk * 4 + 3); have hV1 := Blk.new' w1 72 #[.int .i64 E.at', .int .i64 2, .slice q m d]; have n1 := hV1.cell' (i := 1) rfl; have hbw1 : bb ≠ w1.heap.size := by omega))
          have hB3 := hB1.set (bk * 4 + 1) (.int .i64 ((K.wear : Int) + 1))
          have hV3 := hV1.setOther ⟨bb, bk * 4 + 1, none⟩ (.int .i64 ((K.wear : Int) + 1)) hbw1.symm
          have hk13 : Keep (fun k => k = bb ∨ w.heap.size ≤ k) w1 ((w1.alloc (.cells #[.int .i64 E.at', .int .i64 2, .slice q m d] 72)).setCell ⟨bb, bk * 4 + 1, none⟩ (.int .i64 ((K.wear : Int) + 1))) := ((Keep.of_below (below_alloc w1 _)).setCell _ _ (.inl rfl))
          have hRm := RowAt.first hnb4 q0 q2 q3
          generalize (w1.alloc (.cells #[.int .i64 E.at', .int .i64 2, .slice q m d] 72)).setCell ⟨bb, bk * 4 + 1, none⟩ (.int .i64 ((K.wear : Int) + 1)) = W3 at *
          generalize hBCm : BC.set (bk * 4 + 1) (.int .i64 ((K.wear : Int) + 1)) = BCm at *
          clear hBCm hV1 hB1 c1 f1 c3 f3 n1
          have s3 := hk13.size
          have hpg3 : PagesIn W3 (PV bk) K.pages := (hpg.same (fun k hk => hkp1.block k (hpg.lt hk) (h.nec bk hbk k hk).1)).same (fun k hk => hk13.block k (by have := hpg.lt hk; omega) (fun e => e.elim (fun e => (h.nec bk hbk k hk).2 e) (fun e => by have := hpg.lt hk; omega)))
          have hin3 : In W3 q m d E.mask := hin1.same s3 (fun a hm hq hlt => hk13.block _ hlt (fun e => hq1 a hm hq (.inl (e.elim (fun e => .inl (.inr (.inl e))) .inr))))
          have hAm : After w W3 c s (stepSt s bk { K with wear := K.wear + 1 }) bb PV := op_end h hbk hcell hl hkp1 hc1 he1 hk13 hB3 hRm hpg3 (fun k hk => .inl hk) ⟨hlim.1, hlim.2.1, by show K.wear + 1 ≤ s.ops + 1; omega⟩
          obtain ⟨PVm, hCm, _, _⟩ := hAm
          have hpo : pagesOf (stepSt s bk { K with wear := K.wear + 1 }) (bk : Int) = allP s.np K := by
            have hbx : blkAt (stepSt s bk { K with wear := K.wear + 1 }) (bk : Int) = some { K with wear := K.wear + 1 } := by rw [blkAt_nat]; show (s.bl.set bk _)[bk]? = _; rw [List.getElem?_set_self (by rw [h.bll]; exact hbk)]
            unfold pagesOf; rw [hbx]; rfl
          have hpa := pages_any c _ bb PVm (bk : Int) W3.drew (hCm.below ((Below.refl _ _).drew))
          rw [hpo] at hpa
          have hAP := allP_isP hpg s.np
          have hTP : ∀ p ∈ tornPs s.np K E.mask, IsP p := chunk_isP (by rw [maskL_length, flat_length hAP, allP_length]) (maskL_byte (flat_byte hAP) hin1.byte)
          have HTL : Hid ((tornPs s.np K E.mask).length = s.np) := chunk_length _ _
          have HTF : Hid ((tornPs s.np K E.mask).flatten = maskL (allP s.np K).flatten E.mask) := chunk_all (by rw [maskL_length, flat_length hAP, allP_length])
          have HTT : Hid ((trimP (tornPs s.np K E.mask)).length ≤ s.np) := by have := trimP_length (tornPs s.np K E.mask); rw [HTL.out] at this; exact this
          obtain ⟨pp, hpp⟩ := toPages hAP
          have HPL : Hid (pp.length = s.np) := by show _ = _; rw [← List.length_map (f := (·.1)), hpp, allP_length]
          obtain ⟨TP, hTP0⟩ : ∃ TP, tornPs s.np K E.mask = TP := ⟨_, rfl⟩
          have HTE : Hid (tornPs s.np K E.mask = TP) := hTP0
          rw [hTP0] at hTP HTL HTF HTT
          clear hTP0
          have hnp32 : s.np ≤ 32 := hpl.2
          clear hCm hpo hpg3 hAP q0 q1 q2 q3 hc2 d3
          generalize hV : w1.heap.size = V at *
          clear hV
          refine wp_region_noPanic ?_
          refine wp_region_held_drew (S := fun w' => Blk w' V 72 [.int .i64 E.at', .int .i64 2, .slice q m d]) (by kernel_rfl) hV3.drew (fun hHeld => ?_)
          refine wpAnyH_take (i := 0) (v := ?_) rfl (by kernel_rfl) (by kernel_rfl) (by kernel_rfl) (fun _ _ _ h => h) (Or.inl ⟨by rfl, ?_⟩) hHeld ?_
          rotate_left
          · intro w hSw; try dsimp only at hSw
            go_simp; try (with_reducible rfl)
          try simp only [Act.put, List.getElem_toArray, List.getElem_cons_succ, List.getElem_cons_zero, List.setIfInBounds_toArray, List.set_cons_zero, List.set_cons_succ]
          refine wpAnyH_take (i := 1) (v := ?_) rfl (by kernel_rfl) (by kernel_rfl) (by kernel_rfl) (fun _ _ _ h => h) (Or.inl ⟨by rfl, ?_⟩) hHeld ?_
          rotate_left
          · intro w hSw; try dsimp only at hSw
            go_simp; try (with_reducible rfl)
          try simp only [Act.put, List.getElem_toArray, List.getElem_cons_succ, List.getElem_cons_zero, List.setIfInBounds_toArray, List.set_cons_zero, List.set_cons_succ]
          refine wpAnyH_take (i := 2) (v := ?_) rfl (by kernel_rfl) (by kernel_rfl) (by kernel_rfl) (fun _ _ _ h => h) (Or.inl ⟨by rfl, ?_⟩) hHeld ?_
          rotate_left
          · intro w hSw; try dsimp only at hSw
            go_simp; try (with_reducible rfl)
          try simp only [Act.put, List.getElem_toArray, List.getElem_cons_succ, List.getElem_cons_zero, List.setIfInBounds_toArray, List.set_cons_zero, List.set_cons_succ]
          refine wpAnyH_take (i := 4) (v := ?_) rfl (by kernel_rfl) (by kernel_rfl) (by kernel_rfl) (fun _ _ _ h => h) (Or.inl ⟨by rfl, ?_⟩) hHeld ?_
          rotate_left
          · intro w hSw; try dsimp only at hSw
            go_simp; try (with_reducible rfl)
          try simp only [Act.put, List.getElem_toArray, List.getElem_cons_succ, List.getElem_cons_zero, List.setIfInBounds_toArray, List.set_cons_zero, List.set_cons_succ]
          refine wpAnyH_take (i := 5) (v := ?_) rfl (by kernel_rfl) (by kernel_rfl) (by kernel_rfl) (fun _ _ _ h => h) (Or.inl ⟨by rfl, ?_⟩) hHeld ?_
          rotate_left
          · intro w hSw; try dsimp only at hSw
            have o1 := hSw.cell' (i := 2) rfl
            go_simp; try (with_reducible rfl)
          try simp only [Act.put, List.getElem_toArray, List.getElem_cons_succ, List.getElem_cons_zero, List.setIfInBounds_toArray, List.set_cons_zero, List.set_cons_succ]
          refine wpAnyH_ready (rs := [3]) (by kernel_rfl) (by simp) ?_
          refine AllReadyH.cons rfl (fun K hK => ?_) AllReadyH.nil
          go_simp
          refine hpa.mono ?_
          rintro e X1 ⟨Bs, vP, rfl, hBs, hcv, hpv, hov, hx1⟩
          have htn := torn_any Bs vP pp q m d E.mask X1 hcv (by rw [hpp]; exact hpv) (hin3.below ((Below.refl _ _).drew.trans hx1)) (by rw [HPL.out]; omega)
          rw [HPL.out, hpp] at htn
          clear hpa hcv hpv
          try go_wp2_with fail
          refine hK.out _ _ (hHeld.kept hx1) (fun hHeld => ?_)
          clear hK K
          try simp only [Act.put, List.getElem_toArray, List.getElem_cons_succ, List.getElem_cons_zero, List.setIfInBounds_toArray, List.set_cons_zero, List.set_cons_succ]
          refine wpAnyH_ready (rs := [6]) (by kernel_rfl) (by simp) ?_
          refine AllReadyH.cons rfl (fun K hK => ?_) AllReadyH.nil
          go_simp
          refine htn.mono ?_
          rintro e X2 ⟨g, rfl, hgX, hblk, hx2⟩
          rw [← HTF.out] at hblk
          have htr := trim_any g s.np TP X2 hTP HTL.out hnp32 hblk
          clear htn hblk
          try go_wp2_with fail
          refine hK.out _ _ (hHeld.kept hx2) (fun hHeld => ?_)
          clear hK K
          try simp only [Act.put, List.getElem_toArray, List.getElem_cons_succ, List.getElem_cons_zero, List.setIfInBounds_toArray, List.set_cons_zero, List.set_cons_succ]
          refine wpAnyH_ready (rs := [7]) (by kernel_rfl) (by simp) ?_
          refine AllReadyH.cons rfl (fun K hK => ?_) AllReadyH.nil
          go_simp
          refine htr.mono ?_
          rintro e X3 ⟨v4, rfl, hp4, hv4, hx3⟩
          obtain ⟨p4, cap4, hv4e, _⟩ := hp4.shape
          generalize (trimP TP).length = n4 at hv4e
          subst hv4e
          clear htr
          try go_wp2_with fail
          refine hK.out _ _ (hHeld.kept hx3) (fun hHeld => ?_)
          clear hK K
          try simp only [Act.put, List.getElem_toArray, List.getElem_cons_succ, List.getElem_cons_zero, List.setIfInBounds_toArray, List.set_cons_zero, List.set_cons_succ]
          have hx13 : Below W3.heap.size W3 X3 := bt (bt ((Below.refl _ _).drew.trans hx1) hx2) hx3
          have hBX := hB3.kept hx13
          have b0 := hBX.cell' hRm.own.1
          have g0 := hBX.frozen (bk * 4)
          have sX1 := hx1.size
          have sX2 := hx2.size
          have sX3 := hx3.size
          refine wpAnyH_take (i := 8) (v := ?_) rfl (by kernel_rfl) (by kernel_rfl) (by kernel_rfl) (fun _ _ _ h => h) (Or.inl ⟨by rfl, ?_⟩) hHeld ?_
          rotate_left
          · intro w hSw; try dsimp only at hSw
            go_simp; try (with_reducible rfl)
          try simp only [Act.put, List.getElem_toArray, List.getElem_cons_succ, List.getElem_cons_zero, List.setIfInBounds_toArray, List.set_cons_zero, List.set_cons_succ]
          refine wpAnyH_take (i := 9) (v := ?_) rfl (by kernel_rfl) (by kernel_rfl) (by kernel_rfl) (fun _ _ _ h => h) (Or.inl ⟨by rfl, ?_⟩) hHeld ?_
          rotate_left
          · intro w hSw; try dsimp only at hSw
            go_simp; try (with_reducible rfl)
          try simp only [Act.put, List.getElem_toArray, List.getElem_cons_succ, List.getElem_cons_zero, List.setIfInBounds_toArray, List.set_cons_zero, List.set_cons_succ]
          refine wpAnyH_ready (rs := [10]) (by kernel_rfl) (by simp) ?_
          refine AllReadyH.cons rfl (fun K hK => ?_) AllReadyH.nil
          go_simp
          refine hK.out _ _ (hHeld.setOther ⟨bb, bk * 4, none⟩ (.slice p4 n4 cap4) hbw1.symm) (fun hHeld => ?_)
          clear hK K
          try simp only [Act.put, List.getElem_toArray, List.getElem_cons_succ, List.getElem_cons_zero, List.setIfInBounds_toArray, List.set_cons_zero, List.set_cons_succ]
          refine wpAnyH_done (by kernel_rfl) ?_ _
          refine NoPanic.normal ?_
          have hk19 : Keep (fun k => k = bb ∨ w.heap.size ≤ k) w1 (X3.setCell ⟨bb, bk * 4, none⟩ (.slice p4 n4 cap4)) := (hk13.trans (Keep.of_below (S := fun _ => False) hx13) (fun _ _ e => e.elim)).setCell _ _ (.inl rfl)
          have hc9 := (hc1.keep hk19 (fun e => e.elim (fun e => h.ne e) (fun e => by omega))).cell' (i := 1) rfl
          have hB9 := hBX.set (bk * 4) (.slice p4 n4 cap4)
          have b2 := hB9.cell' (i := bk * 4 + 2) (by rw [List.getElem?_set_ne (by omega)]; exact hRm.own.2.2.1)
          have g2 := hB9.frozen (bk * 4 + 2)
          have n9 := hHeld.cell' (i := 1) rfl
          clear b0 g0
          have hvb : ∀ k, (Value.slice p4 n4 cap4).ownBlock = some k → k ≠ bb := fun k hk => by have := hv4 k hk; have : W3.drew.heap.size = W3.heap.size := rfl; omega
          have hp9 : PagesIn (X3.setCell ⟨bb, bk * 4, none⟩ (.slice p4 n4 cap4)) (.slice p4 n4 cap4) (trimP TP) := hp4.same (fun k hk => heap_setCell_other _ _ _ _ (hvb k hk))
          generalize X3.setCell ⟨bb, bk * 4, none⟩ (.slice p4 n4 cap4) = X9 at *
          go_wp2_with (go_at_call 41; refine (hout _).mono ?_; rintro e w' ⟨rfl, rfl⟩)
          go_ret
          refine ⟨rfl, ?_⟩
          rw [HTE.out]
          exact op_end h hbk hcell hl hkp1 hc1 he1 (hk19.setCell _ _ (.inl rfl)) (hB9.set (bk * 4 + 1 + 1) _) (hRm.put hnb4 (trimP TP) s.np _ rfl) (hp9.same (fun k hk => heap_setCell_other _ _ _ _ (hvb k hk))) (fun k hk => .inr (by have := hv4 k hk; have : W3.drew.heap.size = W3.heap.size := rfl; omega)) ⟨HTT.out, Nat.le_refl _, by show K.wear + 1 ≤ s.ops + 1; omega⟩
        · have hkd1 : (E.kind == 1) = false := by simpa using hk1
          have hkd2 : (E.kind == 2) = false := by simpa using hk2
          have e3 : erasedB s.np K E = { pages := [], wear := K.wear + 1, next := 0, bad := K.bad } := by unfold erasedB; rw [if_neg hk1, if_neg hk2]
          rw [e3]
          go_enter Try.func15, Try.ntmps15
          go_wp2_with (first
            | (go_at_call 37; refine hr.mono ?_; rintro e W0 ⟨rfl, hW0⟩; have hW1 := hW0.symm; subst hW1)
            | (go_at_call 38; refine hbeg.mono ?_; rintro e w1 ⟨q, m, d, rfl, hin1, hq1, hkp1, ep', el', ec', hc1, he1⟩; clear hbeg hr; have hs1 := hkp1.size; have hB1 := (hB.keep hkp1 (fun e => h.ne e.symm)).alloc (.cells #[.int .i64 E.at', .int .i64 E.kind, .slice q m d] 72); have c1 := hB1.cell' q1; have f1 := hB1.frozen (bk * 4 + 1); have c0 := hB1.cell' q0; have f0 := hB1.frozen (bk * 4); have c2 := hB1.cell' q2; have f2 := hB1.frozen (bk * 4 + 2); have n1 := (Blk.new' w1 72 #[.int .i64 E.at', .int .i64 E.kind, .slice q m d]).cell' (i := 1) rfl; have hbw1 : bb ≠ w1.heap.size := by omega)
            | (go_at_call 41; refine (hout _).mono ?_; rintro e w' ⟨rfl, rfl⟩))
          go_ret
          exact ⟨rfl, op_end h hbk hcell hl hkp1 hc1 he1 ((((Keep.of_below (below_alloc w1 _)).setCell _ _ (.inl rfl)).setCell _ _ (.inl rfl)).setCell _ _ (.inl rfl)) (((hB1.set (bk * 4 + 1) _).set (bk * 4) _).set (bk * 4 + 1 + 1) _) ((RowAt.first hnb4 q0 q2 q3).put hnb4 [] 0 0 rfl) (PagesIn.nil _) (fun k hk => by cases hk) ⟨Nat.le_refl _, Nat.zero_le _, by show K.wear + 1 ≤ s.ops + 1; omega⟩⟩
  · have e1 : eraseE s b = reachE s.nb s.np s.on b 0 := by unfold eraseE; rw [if_neg h0]
    have e2 : eraseSt s b = s := by unfold eraseSt; rw [if_neg h0]
    rw [e1, e2]
    generalize reachE s.nb s.np s.on b 0 = r at *
    have h0' : (r == 0) = false := by simpa using h0
    go_enter Try.func15, Try.ntmps15
    go_wp2_with (go_at_call 37; refine hr.mono ?_; rintro e W0 ⟨rfl, hW0⟩; have hW1 := hW0.symm; subst hW1)
    go_ret
    exact ⟨rfl, After.refused h (Below.refl _ _)⟩
end Go.Proofs.Ythafcnilhloldaa
