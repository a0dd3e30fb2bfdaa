/-
  What the law's must does: one call on the reference's chip.
-/
import Derived.Test.YthafcnilhloldaaNRErase
import Derived.Test.YthafcnilhloldaaNRRead
namespace Go.Proofs.Ythafcnilhloldaa
open Go.RowKit Go.Shelf
theorem RsIn.lt {w : World} {c : Nat} {s : St} {bb cr : Nat} {PV : Nat → Value} (h : RsIn w c s bb cr PV) {k : Nat} (hk : fpOf c bb PV s.nb k) : k < w.heap.size := by
  rcases hk with rfl | rfl | ⟨i, hi, he⟩
  · obtain ⟨_, _, _, hc, _⟩ := h.chip; exact hc.lt
  · obtain ⟨_, hB, _⟩ := h.blks; exact hB.lt
  · obtain ⟨b, hb⟩ := h.get i hi
    exact (h.pg i b hb).lt he
theorem RsIn.restart {w : World} {c : Nat} {s : St} {bb cr : Nat} {PV : Nat → Value} (h : RsIn w c s bb cr PV) : RsIn (w.setCell ⟨c, 5, none⟩ (.bool true)) c { s with on := true } bb cr PV := by
  obtain ⟨ep, el, ec, hc, he⟩ := h.chip
  obtain ⟨BC, hB, hl, hcell⟩ := h.blks
  have hk := (Keep.refl (fun k => k = c) w).setCell ⟨c, 5, none⟩ (.bool true) rfl
  exact ⟨⟨ep, el, ec, hc.set 5 (.bool true), he.keep hk (fun k _ e => .inl (.inl e))⟩, ⟨BC, hB.setOther _ _ (fun e => h.ne e.symm), hl, hcell⟩, h.bll,
    fun i b hb => (h.pg i b hb).same (fun k hk' => heap_setCell_other _ _ _ _ (h.nec i (by rw [← h.bll]; exact (List.getElem?_eq_some_iff.1 hb).1) k hk').1), h.ne, h.nec, h.dis, h.nbl, h.npl, h.lim, h.ler⟩
theorem RAft.restart {w : World} {c : Nat} {s : St} {bb cr : Nat} {PV : Nat → Value} (h : RsIn w c s bb cr PV) : RAft w (w.setCell ⟨c, 5, none⟩ (.bool true)) c s { s with on := true } bb cr PV :=
  ⟨PV, h.restart, fun _ e => .inl e, (Keep.refl _ w).setCell _ _ (.inl rfl)⟩
set_option linter.unusedSimpArgs false in
set_option maxRecDepth 100000 in
set_option maxHeartbeats 4000000 in
theorem must_any (c : Nat) (s : St) (bb cr : Nat) (PV : Nat → Value) (o : CallS) (w : World) (h : RsIn w c s bb cr PV) (hKd : ∀ e ∈ s.ev, e.kind = 1 ∨ e.kind = 2) (ho : s.ops < 4611686018427387904) (hf : o.f < 256) :
    Calls Try.prog 19 #[.pointer (some ⟨c, 0, none⟩), .agg (callV o).toArray] w fun e w' => e = .returned (.tuple #[.agg (vals (doesX s o)).toArray, .int .i64 (doesE s o)]) ∧ RAft w w' c s (doesSt s o) bb cr PV := by
  have hz := zeroPage
  have hbp := build_page
  obtain ⟨od, ob, op, nx, f⟩ := o
  unfold callV
  dsimp only at hf ⊢
  cases nx
  · by_cases n0 : od = 0
    · subst n0
      have hb0 : Below w.heap.size w ((w.alloc (.cells #[.int .i64 0, .int .i64 ob, .int .i64 op, .bool false, .int .u8 (f : Int)] 39)).alloc (.cells (vals (fillP 0)).toArray 46)) := bt (below_alloc w _) (below_alloc _ _)
      have hO0 : Blk ((w.alloc (.cells #[.int .i64 0, .int .i64 ob, .int .i64 op, .bool false, .int .u8 (f : Int)] 39)).alloc (.cells (vals (fillP 0)).toArray 46)) w.heap.size 39 [.int .i64 0, .int .i64 ob, .int .i64 op, .bool false, .int .u8 (f : Int)] := (Blk.new' w 39 #[.int .i64 0, .int .i64 ob, .int .i64 op, .bool false, .int .u8 (f : Int)]).alloc _
      have hR0 : Blk ((w.alloc (.cells #[.int .i64 0, .int .i64 ob, .int .i64 op, .bool false, .int .u8 (f : Int)] 39)).alloc (.cells (vals (fillP 0)).toArray 46)) (w.heap.size + 1) 46 (vals (fillP 0)) := by have := Blk.new (w.alloc (.cells #[.int .i64 0, .int .i64 ob, .int .i64 op, .bool false, .int .u8 (f : Int)] 39)) 46 (vals (fillP 0)); rwa [World.size_alloc] at this
      have hfl := fun k (hk : fpOf c bb PV s.nb k) => h.lt hk
      have hq := fun W (hW : RsIn W c s bb cr PV) => rprog_any c s bb cr PV ob op (fillP f) W hW (isP_fill f hf) ho hKd
      rw [show doesE s ⟨0, ob, op, false, f⟩ = progE s ob op from rfl, show doesSt s ⟨0, ob, op, false, f⟩ = progSt s ob op (fillP f) from rfl, show doesX s ⟨0, ob, op, false, f⟩ = fillP 0 from rfl]
      have hbn := hb0
      have hR1 := hR0
      have o0 := hO0.cell' (i := 0) rfl
      have o1 := hO0.cell' (i := 1) rfl
      have o2 := hO0.cell' (i := 2) rfl
      have o3 := hO0.cell' (i := 3) rfl
      have o4 := hO0.cell' (i := 4) rfl
      go_enter Try.func19, Try.ntmps19
      go_wp2_with fail
      have hOn := hO0
      have hCn := h.below hbn
      have sn := hbn.size
      have hlR := hR1.lt
      generalize ((w.alloc (.cells #[.int .i64 0, .int .i64 ob, .int .i64 op, .bool false, .int .u8 (f : Int)] 39)).alloc (.cells (vals (fillP 0)).toArray 46)) = Wn at *
      replace hOn : Blk Wn w.heap.size 39 [.int .i64 0, .int .i64 ob, .int .i64 op, .bool false, .int .u8 (f : Int)] := hOn
      refine wp_region_noPanic ?_
      refine wp_region_held_drew (S := fun w' => Blk w' w.heap.size 39 [.int .i64 0, .int .i64 ob, .int .i64 op, .bool false, .int .u8 (f : Int)] ∧ Blk w' (w.heap.size + 1) 46 (vals (fillP 0))) (by kernel_rfl) ⟨hOn.drew, hR1.drew⟩ (fun hHeld => ?_)
      refine wpAnyH_take (i := 0) (v := ?_) rfl (by kernel_rfl) (by kernel_rfl) (by kernel_rfl) (fun _ _ _ h => h) (Or.inl ⟨by rfl, ?_⟩) hHeld ?_
      rotate_left
      · intro w hSw; try dsimp only at hSw
        go_simp; try (with_reducible rfl)
      try simp only [Act.put, List.getElem_toArray, List.getElem_cons_succ, List.getElem_cons_zero, List.setIfInBounds_toArray, List.set_cons_zero, List.set_cons_succ]
      refine wpAnyH_take (i := 1) (v := ?_) rfl (by kernel_rfl) (by kernel_rfl) (by kernel_rfl) (fun _ _ _ h => h) (Or.inl ⟨by rfl, ?_⟩) hHeld ?_
      rotate_left
      · intro w hSw; try dsimp only at hSw
        go_simp; try (with_reducible rfl)
      try simp only [Act.put, List.getElem_toArray, List.getElem_cons_succ, List.getElem_cons_zero, List.setIfInBounds_toArray, List.set_cons_zero, List.set_cons_succ]
      refine wpAnyH_take (i := 2) (v := ?_) rfl (by kernel_rfl) (by kernel_rfl) (by kernel_rfl) (fun _ _ _ h => h) (Or.inl ⟨by rfl, ?_⟩) hHeld ?_
      rotate_left
      · intro w hSw; try dsimp only at hSw
        go_simp; try (with_reducible rfl)
      try simp only [Act.put, List.getElem_toArray, List.getElem_cons_succ, List.getElem_cons_zero, List.setIfInBounds_toArray, List.set_cons_zero, List.set_cons_succ]
      refine wpAnyH_take (i := 3) (v := ?_) rfl (by kernel_rfl) (by kernel_rfl) (by kernel_rfl) (fun _ _ _ h => h) (Or.inl ⟨by rfl, ?_⟩) hHeld ?_
      rotate_left
      · intro w hSw; try dsimp only at hSw
        have z := hSw.1.cell' (i := 1) rfl
        go_simp; try (with_reducible rfl)
      try simp only [Act.put, List.getElem_toArray, List.getElem_cons_succ, List.getElem_cons_zero, List.setIfInBounds_toArray, List.set_cons_zero, List.set_cons_succ]
      refine wpAnyH_take (i := 4) (v := ?_) rfl (by kernel_rfl) (by kernel_rfl) (by kernel_rfl) (fun _ _ _ h => h) (Or.inl ⟨by rfl, ?_⟩) hHeld ?_
      rotate_left
      · intro w hSw; try dsimp only at hSw
        go_simp; try (with_reducible rfl)
      try simp only [Act.put, List.getElem_toArray, List.getElem_cons_succ, List.getElem_cons_zero, List.setIfInBounds_toArray, List.set_cons_zero, List.set_cons_succ]
      refine wpAnyH_take (i := 5) (v := ?_) rfl (by kernel_rfl) (by kernel_rfl) (by kernel_rfl) (fun _ _ _ h => h) (Or.inl ⟨by rfl, ?_⟩) hHeld ?_
      rotate_left
      · intro w hSw; try dsimp only at hSw
        have z := hSw.1.cell' (i := 2) rfl
        go_simp; try (with_reducible rfl)
      try simp only [Act.put, List.getElem_toArray, List.getElem_cons_succ, List.getElem_cons_zero, List.setIfInBounds_toArray, List.set_cons_zero, List.set_cons_succ]
      refine wpAnyH_take (i := 6) (v := ?_) rfl (by kernel_rfl) (by kernel_rfl) (by kernel_rfl) (fun _ _ _ h => h) (Or.inl ⟨by rfl, ?_⟩) hHeld ?_
      rotate_left
      · intro w hSw; try dsimp only at hSw
        go_simp; try (with_reducible rfl)
      try simp only [Act.put, List.getElem_toArray, List.getElem_cons_succ, List.getElem_cons_zero, List.setIfInBounds_toArray, List.set_cons_zero, List.set_cons_succ]
      refine wpAnyH_take (i := 7) (v := ?_) rfl (by kernel_rfl) (by kernel_rfl) (by kernel_rfl) (fun _ _ _ h => h) (Or.inl ⟨by rfl, ?_⟩) hHeld ?_
      rotate_left
      · intro w hSw; try dsimp only at hSw
        have z := hSw.1.cell' (i := 4) rfl
        go_simp; try (with_reducible rfl)
      try simp only [Act.put, List.getElem_toArray, List.getElem_cons_succ, List.getElem_cons_zero, List.setIfInBounds_toArray, List.set_cons_zero, List.set_cons_succ]
      refine wpAnyH_ready (rs := [8]) (by kernel_rfl) (by simp) ?_
      refine AllReadyH.cons rfl (fun K hK => ?_) AllReadyH.nil
      go_simp
      refine (page_any f _).mono ?_
      rintro e Y1 ⟨rfl, y1⟩
      have hby := hbn.drew.trans (y1.mono sn)
      try go_wp2_with fail
      refine hK.out _ _ ⟨hHeld.1.kept y1, hHeld.2.kept y1⟩ (fun hHeld => ?_)
      clear hK K
      try simp only [Act.put, List.getElem_toArray, List.getElem_cons_succ, List.getElem_cons_zero, List.setIfInBounds_toArray, List.set_cons_zero, List.set_cons_succ]
      refine wpAnyH_ready (rs := [9]) (by kernel_rfl) (by simp) ?_
      refine AllReadyH.cons rfl (fun K hK => ?_) AllReadyH.nil
      go_simp
      refine (hq _ (h.below hby)).mono ?_
      rintro e Y2 ⟨rfl, hA2⟩
      have hO2 := hHeld.1.rafter hA2 (fun e => by have := hfl _ e; omega)
      have hR2 := hHeld.2.rafter hA2 (fun e => by have := hfl _ e; omega)
      try go_wp2_with fail
      refine hK.out _ _ ⟨hO2, hR2⟩ (fun hHeld => ?_)
      clear hK K
      try simp only [Act.put, List.getElem_toArray, List.getElem_cons_succ, List.getElem_cons_zero, List.setIfInBounds_toArray, List.set_cons_zero, List.set_cons_succ]
      refine wpAnyH_ready (rs := [10]) (by kernel_rfl) (by simp) ?_
      refine AllReadyH.cons rfl (fun K hK => ?_) AllReadyH.nil
      rw [if_pos (by rfl)]
      refine wp_store_blk 46 (.tmp 4) _ rfl _ _ (vals (fillP 0)) rfl rfl hHeld.2 (Nat.le_of_eq (Nat.zero_add _)) (sizeP (fillP_length _)) (vals_one _) ?_
      intro w9 h9 ht9
      rw [whole_row rfl] at h9
      refine hK.out _ _ ⟨hO2.keep (S := fun k => k = w.heap.size + 1) (Keep.of_turned ht9 rfl) (by omega), h9⟩ (fun hHeld => ?_)
      clear hK K
      try simp only [Act.put, List.getElem_toArray, List.getElem_cons_succ, List.getElem_cons_zero, List.setIfInBounds_toArray, List.set_cons_zero, List.set_cons_succ]
      refine wpAnyH_take (i := 11) (v := ?_) rfl (by kernel_rfl) (by kernel_rfl) (by kernel_rfl) (fun _ _ _ h => h) (Or.inl ⟨by rfl, ?_⟩) hHeld ?_
      rotate_left
      · intro w hSw; try dsimp only at hSw
        go_simp; try (with_reducible rfl)
      try simp only [Act.put, List.getElem_toArray, List.getElem_cons_succ, List.getElem_cons_zero, List.setIfInBounds_toArray, List.set_cons_zero, List.set_cons_succ]
      refine wpAnyH_done (by kernel_rfl) ?_ _
      refine NoPanic.normal ?_
      go_wp2_with fail
      exact ret_pageE Try.results19 rfl h9 (fillP_length _) rfl rfl ⟨rfl, (RAft.of hby hA2).same (keep_same ht9 hR2 h9)⟩
    · by_cases n1 : od = 1
      · subst n1
        have hb0 : Below w.heap.size w ((w.alloc (.cells #[.int .i64 1, .int .i64 ob, .int .i64 op, .bool false, .int .u8 (f : Int)] 39)).alloc (.cells (vals (fillP 0)).toArray 46)) := bt (below_alloc w _) (below_alloc _ _)
        have hO0 : Blk ((w.alloc (.cells #[.int .i64 1, .int .i64 ob, .int .i64 op, .bool false, .int .u8 (f : Int)] 39)).alloc (.cells (vals (fillP 0)).toArray 46)) w.heap.size 39 [.int .i64 1, .int .i64 ob, .int .i64 op, .bool false, .int .u8 (f : Int)] := (Blk.new' w 39 #[.int .i64 1, .int .i64 ob, .int .i64 op, .bool false, .int .u8 (f : Int)]).alloc _
        have hR0 : Blk ((w.alloc (.cells #[.int .i64 1, .int .i64 ob, .int .i64 op, .bool false, .int .u8 (f : Int)] 39)).alloc (.cells (vals (fillP 0)).toArray 46)) (w.heap.size + 1) 46 (vals (fillP 0)) := by have := Blk.new (w.alloc (.cells #[.int .i64 1, .int .i64 ob, .int .i64 op, .bool false, .int .u8 (f : Int)] 39)) 46 (vals (fillP 0)); rwa [World.size_alloc] at this
        have hfl := fun k (hk : fpOf c bb PV s.nb k) => h.lt hk
        have hq := fun W (hW : RsIn W c s bb cr PV) => rerase_any c s bb cr PV ob W hW ho hKd
        rw [show doesE s ⟨1, ob, op, false, f⟩ = eraseE s ob from rfl, show doesSt s ⟨1, ob, op, false, f⟩ = eraseSt s ob from rfl, show doesX s ⟨1, ob, op, false, f⟩ = fillP 0 from rfl]
        have hbn := hb0
        have hR1 := hR0
        have o0 := hO0.cell' (i := 0) rfl
        have o1 := hO0.cell' (i := 1) rfl
        have o2 := hO0.cell' (i := 2) rfl
        have o3 := hO0.cell' (i := 3) rfl
        have o4 := hO0.cell' (i := 4) rfl
        go_enter Try.func19, Try.ntmps19
        go_wp2_with (first
          | (go_at_call 45; refine (hq _ (h.below hbn)).mono ?_; rintro e X2 ⟨rfl, hA2⟩; have hR2 := hR1.rafter hA2 (fun e => by have := hfl _ e; omega))
          | (refine wpList_store_blk rfl 46 (.tmp 4) _ rfl _ _ (vals (fillP 0)) rfl rfl hR2 (Nat.le_of_eq (Nat.zero_add _)) (sizeP (fillP_length _)) (vals_one _) ?_; intro w9 h9 ht9; rw [whole_row rfl] at h9))
        exact ret_pageE Try.results19 rfl h9 (fillP_length _) rfl rfl ⟨rfl, (RAft.of hbn hA2).same (keep_same ht9 hR2 h9)⟩
      · by_cases n2 : od = 2
        · subst n2
          have hb0 : Below w.heap.size w ((w.alloc (.cells #[.int .i64 2, .int .i64 ob, .int .i64 op, .bool false, .int .u8 (f : Int)] 39)).alloc (.cells (vals (fillP 0)).toArray 46)) := bt (below_alloc w _) (below_alloc _ _)
          have hO0 : Blk ((w.alloc (.cells #[.int .i64 2, .int .i64 ob, .int .i64 op, .bool false, .int .u8 (f : Int)] 39)).alloc (.cells (vals (fillP 0)).toArray 46)) w.heap.size 39 [.int .i64 2, .int .i64 ob, .int .i64 op, .bool false, .int .u8 (f : Int)] := (Blk.new' w 39 #[.int .i64 2, .int .i64 ob, .int .i64 op, .bool false, .int .u8 (f : Int)]).alloc _
          have hR0 : Blk ((w.alloc (.cells #[.int .i64 2, .int .i64 ob, .int .i64 op, .bool false, .int .u8 (f : Int)] 39)).alloc (.cells (vals (fillP 0)).toArray 46)) (w.heap.size + 1) 46 (vals (fillP 0)) := by have := Blk.new (w.alloc (.cells #[.int .i64 2, .int .i64 ob, .int .i64 op, .bool false, .int .u8 (f : Int)] 39)) 46 (vals (fillP 0)); rwa [World.size_alloc] at this
          have hfl := fun k (hk : fpOf c bb PV s.nb k) => h.lt hk
          have hq := fun W (hW : RsIn W c s bb cr PV) => rread_any c s bb cr PV ob op W hW
          rw [show doesE s ⟨2, ob, op, false, f⟩ = reachE s.nb s.np s.on ob op from rfl, show doesSt s ⟨2, ob, op, false, f⟩ = s from rfl, show doesX s ⟨2, ob, op, false, f⟩ = readX s ob op from rfl]
          have HL : Hid ((readX s ob op).length = 288) := (readX_isR h ob op).1
          have hbn := hb0
          have hR1 := hR0
          have o0 := hO0.cell' (i := 0) rfl
          have o1 := hO0.cell' (i := 1) rfl
          have o2 := hO0.cell' (i := 2) rfl
          have o3 := hO0.cell' (i := 3) rfl
          have o4 := hO0.cell' (i := 4) rfl
          go_enter Try.func19, Try.ntmps19
          go_wp2_with (first
            | (go_at_call 46; refine (hq _ (h.below hbn)).mono ?_; rintro e X2 ⟨rfl, hx2⟩; have hR2 := hR1.kept hx2)
            | (refine wpList_store_blk rfl 46 (.tmp 4) _ rfl _ _ (vals (readX s ob op)) rfl rfl hR2 (by rw [vals_length, vals_length, HL.out, fillP_length]; exact Nat.le_of_eq (by first | rfl | simp)) (sizeP HL.out) (vals_one _) ?_; intro w9 h9 ht9; rw [whole_row (by rw [vals_length, vals_length, HL.out, fillP_length])] at h9))
          exact ret_pageE Try.results19 rfl h9 HL.out rfl rfl ⟨rfl, RAft.refused h (ht9.below (bt hbn hx2) (by omega))⟩
        · by_cases n3 : od = 3
          · subst n3
            have hb0 : Below w.heap.size w ((w.alloc (.cells #[.int .i64 3, .int .i64 ob, .int .i64 op, .bool false, .int .u8 (f : Int)] 39)).alloc (.cells (vals (fillP 0)).toArray 46)) := bt (below_alloc w _) (below_alloc _ _)
            have hO0 : Blk ((w.alloc (.cells #[.int .i64 3, .int .i64 ob, .int .i64 op, .bool false, .int .u8 (f : Int)] 39)).alloc (.cells (vals (fillP 0)).toArray 46)) w.heap.size 39 [.int .i64 3, .int .i64 ob, .int .i64 op, .bool false, .int .u8 (f : Int)] := (Blk.new' w 39 #[.int .i64 3, .int .i64 ob, .int .i64 op, .bool false, .int .u8 (f : Int)]).alloc _
            have hR0 : Blk ((w.alloc (.cells #[.int .i64 3, .int .i64 ob, .int .i64 op, .bool false, .int .u8 (f : Int)] 39)).alloc (.cells (vals (fillP 0)).toArray 46)) (w.heap.size + 1) 46 (vals (fillP 0)) := by have := Blk.new (w.alloc (.cells #[.int .i64 3, .int .i64 ob, .int .i64 op, .bool false, .int .u8 (f : Int)] 39)) 46 (vals (fillP 0)); rwa [World.size_alloc] at this
            have hfl := fun k (hk : fpOf c bb PV s.nb k) => h.lt hk
            rw [show doesE s ⟨3, ob, op, false, f⟩ = 0 from rfl, show doesSt s ⟨3, ob, op, false, f⟩ = { s with on := true } from rfl, show doesX s ⟨3, ob, op, false, f⟩ = fillP 0 from rfl]
            have hbn := hb0
            have hR1 := hR0
            have o0 := hO0.cell' (i := 0) rfl
            have o1 := hO0.cell' (i := 1) rfl
            have o2 := hO0.cell' (i := 2) rfl
            have o3 := hO0.cell' (i := 3) rfl
            have o4 := hO0.cell' (i := 4) rfl
            go_enter Try.func19, Try.ntmps19
            obtain ⟨ep5, el5, ec5, hc5, _⟩ := (h.below hbn).chip
            have c5 := hc5.cell' (i := 5) rfl
            have f5 := hc5.frozen 5
            have hA2 := RAft.restart (h.below hbn)
            have hR2 := hR1.rafter hA2 (fun e => by have := hfl _ e; omega)
            go_wp2_with (first
              | (refine wpList_store_blk rfl 46 (.tmp 4) _ rfl _ _ (vals (fillP 0)) rfl rfl hR2 (Nat.le_of_eq (Nat.zero_add _)) (sizeP (fillP_length _)) (vals_one _) ?_; intro w9 h9 ht9; rw [whole_row rfl] at h9))
            exact ret_pageE Try.results19 rfl h9 (fillP_length _) rfl rfl ⟨rfl, (RAft.of hbn hA2).same (keep_same ht9 hR2 h9)⟩
          · have hb0 : Below w.heap.size w ((w.alloc (.cells #[.int .i64 od, .int .i64 ob, .int .i64 op, .bool false, .int .u8 (f : Int)] 39)).alloc (.cells (vals (fillP 0)).toArray 46)) := bt (below_alloc w _) (below_alloc _ _)
            have hO0 : Blk ((w.alloc (.cells #[.int .i64 od, .int .i64 ob, .int .i64 op, .bool false, .int .u8 (f : Int)] 39)).alloc (.cells (vals (fillP 0)).toArray 46)) w.heap.size 39 [.int .i64 od, .int .i64 ob, .int .i64 op, .bool false, .int .u8 (f : Int)] := (Blk.new' w 39 #[.int .i64 od, .int .i64 ob, .int .i64 op, .bool false, .int .u8 (f : Int)]).alloc _
            have hR0 : Blk ((w.alloc (.cells #[.int .i64 od, .int .i64 ob, .int .i64 op, .bool false, .int .u8 (f : Int)] 39)).alloc (.cells (vals (fillP 0)).toArray 46)) (w.heap.size + 1) 46 (vals (fillP 0)) := by have := Blk.new (w.alloc (.cells #[.int .i64 od, .int .i64 ob, .int .i64 op, .bool false, .int .u8 (f : Int)] 39)) 46 (vals (fillP 0)); rwa [World.size_alloc] at this
            have hfl := fun k (hk : fpOf c bb PV s.nb k) => h.lt hk
            rw [show doesE s ⟨od, ob, op, false, f⟩ = 0 from by simp [doesE, n0, n1, n2], show doesSt s ⟨od, ob, op, false, f⟩ = s from by simp [doesSt, n0, n1, n3], show doesX s ⟨od, ob, op, false, f⟩ = fillP 0 from by simp [doesX, n2]]
            have m0 : (od == 0) = false := by simpa using n0
            have m1 : (od == 1) = false := by simpa using n1
            have m2 : (od == 2) = false := by simpa using n2
            have m3 : (od == 3) = false := by simpa using n3
            have hbn := hb0
            have hR1 := hR0
            have o0 := hO0.cell' (i := 0) rfl
            have o1 := hO0.cell' (i := 1) rfl
            have o2 := hO0.cell' (i := 2) rfl
            have o3 := hO0.cell' (i := 3) rfl
            have o4 := hO0.cell' (i := 4) rfl
            go_enter Try.func19, Try.ntmps19
            go_wp2_with (first
              | (refine wpList_store_blk rfl 46 (.tmp 4) _ rfl _ _ (vals (fillP 0)) rfl rfl hR1 (Nat.le_of_eq (Nat.zero_add _)) (sizeP (fillP_length _)) (vals_one _) ?_; intro w9 h9 ht9; rw [whole_row rfl] at h9))
            exact ret_pageE Try.results19 rfl h9 (fillP_length _) rfl rfl ⟨rfl, RAft.refused h (ht9.below hbn (by omega))⟩
  · by_cases n0 : od = 0
    · subst n0
      have hb0 : Below w.heap.size w ((w.alloc (.cells #[.int .i64 0, .int .i64 ob, .int .i64 op, .bool true, .int .u8 (f : Int)] 39)).alloc (.cells (vals (fillP 0)).toArray 46)) := bt (below_alloc w _) (below_alloc _ _)
      have hO0 : Blk ((w.alloc (.cells #[.int .i64 0, .int .i64 ob, .int .i64 op, .bool true, .int .u8 (f : Int)] 39)).alloc (.cells (vals (fillP 0)).toArray 46)) w.heap.size 39 [.int .i64 0, .int .i64 ob, .int .i64 op, .bool true, .int .u8 (f : Int)] := (Blk.new' w 39 #[.int .i64 0, .int .i64 ob, .int .i64 op, .bool true, .int .u8 (f : Int)]).alloc _
      have hR0 : Blk ((w.alloc (.cells #[.int .i64 0, .int .i64 ob, .int .i64 op, .bool true, .int .u8 (f : Int)] 39)).alloc (.cells (vals (fillP 0)).toArray 46)) (w.heap.size + 1) 46 (vals (fillP 0)) := by have := Blk.new (w.alloc (.cells #[.int .i64 0, .int .i64 ob, .int .i64 op, .bool true, .int .u8 (f : Int)] 39)) 46 (vals (fillP 0)); rwa [World.size_alloc] at this
      have hfl := fun k (hk : fpOf c bb PV s.nb k) => h.lt hk
      have hq := fun W (hW : RsIn W c s bb cr PV) => rprog_any c s bb cr PV ob (lkN s ob) (fillP f) W hW (isP_fill f hf) ho hKd
      rw [show doesE s ⟨0, ob, op, true, f⟩ = progE s ob (lkN s ob) from rfl, show doesSt s ⟨0, ob, op, true, f⟩ = progSt s ob (lkN s ob) (fillP f) from rfl, show doesX s ⟨0, ob, op, true, f⟩ = fillP 0 from rfl]
      have hlk := slook_any c s bb cr PV ob _ (h.below hb0)
      generalize lkW s ob = lw at *
      generalize lkB s ob = lb at *
      generalize lkN s ob = ln at *
      have o3 := hO0.cell' (i := 3) rfl
      go_enter Try.func19, Try.ntmps19
      go_wp2_with (go_at_call 34; refine hlk.mono ?_; rintro e X1 ⟨rfl, hx1⟩; have hO1 := (hO0.kept hx1).alloc (.cells #[.int .i64 lw, .int .i64 ln, .bool lb] 54); have hR1 := ((hR0.kept hx1).alloc (.cells #[.int .i64 lw, .int .i64 ln, .bool lb] 54)).setOther ⟨w.heap.size, 2, none⟩ (.int .i64 ln) (by show w.heap.size + 1 ≠ w.heap.size; omega); have hbn : Below w.heap.size w ((X1.alloc (.cells #[.int .i64 lw, .int .i64 ln, .bool lb] 54)).setCell ⟨w.heap.size, 2, none⟩ (.int .i64 ln)) := (bt (bt hb0 hx1) (below_alloc _ _)).setCell (Nat.le_refl _) _; have hOn := hO1.set 2 (.int .i64 ln); have o0 := hO1.cell' (i := 0) rfl; have o1 := hO1.cell' (i := 1) rfl; have o2 := hO1.cell' (i := 2) rfl; have o4 := hO1.cell' (i := 4) rfl; have f2 := hO1.frozen 2; clear hlk)
      have hCn := h.below hbn
      have sn := hbn.size
      have hlR := hR1.lt
      generalize ((X1.alloc (.cells #[.int .i64 lw, .int .i64 ln, .bool lb] 54)).setCell ⟨w.heap.size, 2, none⟩ (.int .i64 ln)) = Wn at *
      replace hOn : Blk Wn w.heap.size 39 [.int .i64 0, .int .i64 ob, .int .i64 ln, .bool true, .int .u8 (f : Int)] := hOn
      refine wp_region_noPanic ?_
      refine wp_region_held_drew (S := fun w' => Blk w' w.heap.size 39 [.int .i64 0, .int .i64 ob, .int .i64 ln, .bool true, .int .u8 (f : Int)] ∧ Blk w' (w.heap.size + 1) 46 (vals (fillP 0))) (by kernel_rfl) ⟨hOn.drew, hR1.drew⟩ (fun hHeld => ?_)
      refine wpAnyH_take (i := 0) (v := ?_) rfl (by kernel_rfl) (by kernel_rfl) (by kernel_rfl) (fun _ _ _ h => h) (Or.inl ⟨by rfl, ?_⟩) hHeld ?_
      rotate_left
      · intro w hSw; try dsimp only at hSw
        go_simp; try (with_reducible rfl)
      try simp only [Act.put, List.getElem_toArray, List.getElem_cons_succ, List.getElem_cons_zero, List.setIfInBounds_toArray, List.set_cons_zero, List.set_cons_succ]
      refine wpAnyH_take (i := 1) (v := ?_) rfl (by kernel_rfl) (by kernel_rfl) (by kernel_rfl) (fun _ _ _ h => h) (Or.inl ⟨by rfl, ?_⟩) hHeld ?_
      rotate_left
      · intro w hSw; try dsimp only at hSw
        go_simp; try (with_reducible rfl)
      try simp only [Act.put, List.getElem_toArray, List.getElem_cons_succ, List.getElem_cons_zero, List.setIfInBounds_toArray, List.set_cons_zero, List.set_cons_succ]
      refine wpAnyH_take (i := 2) (v := ?_) rfl (by kernel_rfl) (by kernel_rfl) (by kernel_rfl) (fun _ _ _ h => h) (Or.inl ⟨by rfl, ?_⟩) hHeld ?_
      rotate_left
      · intro w hSw; try dsimp only at hSw
        go_simp; try (with_reducible rfl)
      try simp only [Act.put, List.getElem_toArray, List.getElem_cons_succ, List.getElem_cons_zero, List.setIfInBounds_toArray, List.set_cons_zero, List.set_cons_succ]
      refine wpAnyH_take (i := 3) (v := ?_) rfl (by kernel_rfl) (by kernel_rfl) (by kernel_rfl) (fun _ _ _ h => h) (Or.inl ⟨by rfl, ?_⟩) hHeld ?_
      rotate_left
      · intro w hSw; try dsimp only at hSw
        have z := hSw.1.cell' (i := 1) rfl
        go_simp; try (with_reducible rfl)
      try simp only [Act.put, List.getElem_toArray, List.getElem_cons_succ, List.getElem_cons_zero, List.setIfInBounds_toArray, List.set_cons_zero, List.set_cons_succ]
      refine wpAnyH_take (i := 4) (v := ?_) rfl (by kernel_rfl) (by kernel_rfl) (by kernel_rfl) (fun _ _ _ h => h) (Or.inl ⟨by rfl, ?_⟩) hHeld ?_
      rotate_left
      · intro w hSw; try dsimp only at hSw
        go_simp; try (with_reducible rfl)
      try simp only [Act.put, List.getElem_toArray, List.getElem_cons_succ, List.getElem_cons_zero, List.setIfInBounds_toArray, List.set_cons_zero, List.set_cons_succ]
      refine wpAnyH_take (i := 5) (v := ?_) rfl (by kernel_rfl) (by kernel_rfl) (by kernel_rfl) (fun _ _ _ h => h) (Or.inl ⟨by rfl, ?_⟩) hHeld ?_
      rotate_left
      · intro w hSw; try dsimp only at hSw
        have z := hSw.1.cell' (i := 2) rfl
        go_simp; try (with_reducible rfl)
      try simp only [Act.put, List.getElem_toArray, List.getElem_cons_succ, List.getElem_cons_zero, List.setIfInBounds_toArray, List.set_cons_zero, List.set_cons_succ]
      refine wpAnyH_take (i := 6) (v := ?_) rfl (by kernel_rfl) (by kernel_rfl) (by kernel_rfl) (fun _ _ _ h => h) (Or.inl ⟨by rfl, ?_⟩) hHeld ?_
      rotate_left
      · intro w hSw; try dsimp only at hSw
        go_simp; try (with_reducible rfl)
      try simp only [Act.put, List.getElem_toArray, List.getElem_cons_succ, List.getElem_cons_zero, List.setIfInBounds_toArray, List.set_cons_zero, List.set_cons_succ]
      refine wpAnyH_take (i := 7) (v := ?_) rfl (by kernel_rfl) (by kernel_rfl) (by kernel_rfl) (fun _ _ _ h => h) (Or.inl ⟨by rfl, ?_⟩) hHeld ?_
      rotate_left
      · intro w hSw; try dsimp only at hSw
        have z := hSw.1.cell' (i := 4) rfl
        go_simp; try (with_reducible rfl)
      try simp only [Act.put, List.getElem_toArray, List.getElem_cons_succ, List.getElem_cons_zero, List.setIfInBounds_toArray, List.set_cons_zero, List.set_cons_succ]
      refine wpAnyH_ready (rs := [8]) (by kernel_rfl) (by simp) ?_
      refine AllReadyH.cons rfl (fun K hK => ?_) AllReadyH.nil
      go_simp
      refine (page_any f _).mono ?_
      rintro e Y1 ⟨rfl, y1⟩
      have hby := hbn.drew.trans (y1.mono sn)
      try go_wp2_with fail
      refine hK.out _ _ ⟨hHeld.1.kept y1, hHeld.2.kept y1⟩ (fun hHeld => ?_)
      clear hK K
      try simp only [Act.put, List.getElem_toArray, List.getElem_cons_succ, List.getElem_cons_zero, List.setIfInBounds_toArray, List.set_cons_zero, List.set_cons_succ]
      refine wpAnyH_ready (rs := [9]) (by kernel_rfl) (by simp) ?_
      refine AllReadyH.cons rfl (fun K hK => ?_) AllReadyH.nil
      go_simp
      refine (hq _ (h.below hby)).mono ?_
      rintro e Y2 ⟨rfl, hA2⟩
      have hO2 := hHeld.1.rafter hA2 (fun e => by have := hfl _ e; omega)
      have hR2 := hHeld.2.rafter hA2 (fun e => by have := hfl _ e; omega)
      try go_wp2_with fail
      refine hK.out _ _ ⟨hO2, hR2⟩ (fun hHeld => ?_)
      clear hK K
      try simp only [Act.put, List.getElem_toArray, List.getElem_cons_succ, List.getElem_cons_zero, List.setIfInBounds_toArray, List.set_cons_zero, List.set_cons_succ]
      refine wpAnyH_ready (rs := [10]) (by kernel_rfl) (by simp) ?_
      refine AllReadyH.cons rfl (fun K hK => ?_) AllReadyH.nil
      rw [if_pos (by rfl)]
      refine wp_store_blk 46 (.tmp 4) _ rfl _ _ (vals (fillP 0)) rfl rfl hHeld.2 (Nat.le_of_eq (Nat.zero_add _)) (sizeP (fillP_length _)) (vals_one _) ?_
      intro w9 h9 ht9
      rw [whole_row rfl] at h9
      refine hK.out _ _ ⟨hO2.keep (S := fun k => k = w.heap.size + 1) (Keep.of_turned ht9 rfl) (by omega), h9⟩ (fun hHeld => ?_)
      clear hK K
      try simp only [Act.put, List.getElem_toArray, List.getElem_cons_succ, List.getElem_cons_zero, List.setIfInBounds_toArray, List.set_cons_zero, List.set_cons_succ]
      refine wpAnyH_take (i := 11) (v := ?_) rfl (by kernel_rfl) (by kernel_rfl) (by kernel_rfl) (fun _ _ _ h => h) (Or.inl ⟨by rfl, ?_⟩) hHeld ?_
      rotate_left
      · intro w hSw; try dsimp only at hSw
        go_simp; try (with_reducible rfl)
      try simp only [Act.put, List.getElem_toArray, List.getElem_cons_succ, List.getElem_cons_zero, List.setIfInBounds_toArray, List.set_cons_zero, List.set_cons_succ]
      refine wpAnyH_done (by kernel_rfl) ?_ _
      refine NoPanic.normal ?_
      go_wp2_with fail
      exact ret_pageE Try.results19 rfl h9 (fillP_length _) rfl rfl ⟨rfl, (RAft.of hby hA2).same (keep_same ht9 hR2 h9)⟩
    · by_cases n1 : od = 1
      · subst n1
        have hb0 : Below w.heap.size w ((w.alloc (.cells #[.int .i64 1, .int .i64 ob, .int .i64 op, .bool true, .int .u8 (f : Int)] 39)).alloc (.cells (vals (fillP 0)).toArray 46)) := bt (below_alloc w _) (below_alloc _ _)
        have hO0 : Blk ((w.alloc (.cells #[.int .i64 1, .int .i64 ob, .int .i64 op, .bool true, .int .u8 (f : Int)] 39)).alloc (.cells (vals (fillP 0)).toArray 46)) w.heap.size 39 [.int .i64 1, .int .i64 ob, .int .i64 op, .bool true, .int .u8 (f : Int)] := (Blk.new' w 39 #[.int .i64 1, .int .i64 ob, .int .i64 op, .bool true, .int .u8 (f : Int)]).alloc _
        have hR0 : Blk ((w.alloc (.cells #[.int .i64 1, .int .i64 ob, .int .i64 op, .bool true, .int .u8 (f : Int)] 39)).alloc (.cells (vals (fillP 0)).toArray 46)) (w.heap.size + 1) 46 (vals (fillP 0)) := by have := Blk.new (w.alloc (.cells #[.int .i64 1, .int .i64 ob, .int .i64 op, .bool true, .int .u8 (f : Int)] 39)) 46 (vals (fillP 0)); rwa [World.size_alloc] at this
        have hfl := fun k (hk : fpOf c bb PV s.nb k) => h.lt hk
        have hq := fun W (hW : RsIn W c s bb cr PV) => rerase_any c s bb cr PV ob W hW ho hKd
        rw [show doesE s ⟨1, ob, op, true, f⟩ = eraseE s ob from rfl, show doesSt s ⟨1, ob, op, true, f⟩ = eraseSt s ob from rfl, show doesX s ⟨1, ob, op, true, f⟩ = fillP 0 from rfl]
        have hlk := slook_any c s bb cr PV ob _ (h.below hb0)
        generalize lkW s ob = lw at *
        generalize lkB s ob = lb at *
        generalize lkN s ob = ln at *
        have o3 := hO0.cell' (i := 3) rfl
        go_enter Try.func19, Try.ntmps19
        go_wp2_with (first
          | (go_at_call 34; refine hlk.mono ?_; rintro e X1 ⟨rfl, hx1⟩; have hO1 := (hO0.kept hx1).alloc (.cells #[.int .i64 lw, .int .i64 ln, .bool lb] 54); have hR1 := ((hR0.kept hx1).alloc (.cells #[.int .i64 lw, .int .i64 ln, .bool lb] 54)).setOther ⟨w.heap.size, 2, none⟩ (.int .i64 ln) (by show w.heap.size + 1 ≠ w.heap.size; omega); have hbn : Below w.heap.size w ((X1.alloc (.cells #[.int .i64 lw, .int .i64 ln, .bool lb] 54)).setCell ⟨w.heap.size, 2, none⟩ (.int .i64 ln)) := (bt (bt hb0 hx1) (below_alloc _ _)).setCell (Nat.le_refl _) _; have hOn := hO1.set 2 (.int .i64 ln); have o0 := hO1.cell' (i := 0) rfl; have o1 := hO1.cell' (i := 1) rfl; have o2 := hO1.cell' (i := 2) rfl; have o4 := hO1.cell' (i := 4) rfl; have f2 := hO1.frozen 2; clear hlk)
          | (go_at_call 45; refine (hq _ (h.below hbn)).mono ?_; rintro e X2 ⟨rfl, hA2⟩; have hR2 := hR1.rafter hA2 (fun e => by have := hfl _ e; omega))
          | (refine wpList_store_blk rfl 46 (.tmp 4) _ rfl _ _ (vals (fillP 0)) rfl rfl hR2 (Nat.le_of_eq (Nat.zero_add _)) (sizeP (fillP_length _)) (vals_one _) ?_; intro w9 h9 ht9; rw [whole_row rfl] at h9))
        exact ret_pageE Try.results19 rfl h9 (fillP_length _) rfl rfl ⟨rfl, (RAft.of hbn hA2).same (keep_same ht9 hR2 h9)⟩
      · by_cases n2 : od = 2
        · subst n2
          have hb0 : Below w.heap.size w ((w.alloc (.cells #[.int .i64 2, .int .i64 ob, .int .i64 op, .bool true, .int .u8 (f : Int)] 39)).alloc (.cells (vals (fillP 0)).toArray 46)) := bt (below_alloc w _) (below_alloc _ _)
          have hO0 : Blk ((w.alloc (.cells #[.int .i64 2, .int .i64 ob, .int .i64 op, .bool true, .int .u8 (f : Int)] 39)).alloc (.cells (vals (fillP 0)).toArray 46)) w.heap.size 39 [.int .i64 2, .int .i64 ob, .int .i64 op, .bool true, .int .u8 (f : Int)] := (Blk.new' w 39 #[.int .i64 2, .int .i64 ob, .int .i64 op, .bool true, .int .u8 (f : Int)]).alloc _
          have hR0 : Blk ((w.alloc (.cells #[.int .i64 2, .int .i64 ob, .int .i64 op, .bool true, .int .u8 (f : Int)] 39)).alloc (.cells (vals (fillP 0)).toArray 46)) (w.heap.size + 1) 46 (vals (fillP 0)) := by have := Blk.new (w.alloc (.cells #[.int .i64 2, .int .i64 ob, .int .i64 op, .bool true, .int .u8 (f : Int)] 39)) 46 (vals (fillP 0)); rwa [World.size_alloc] at this
          have hfl := fun k (hk : fpOf c bb PV s.nb k) => h.lt hk
          have hq := fun W (hW : RsIn W c s bb cr PV) => rread_any c s bb cr PV ob (lkN s ob) W hW
          rw [show doesE s ⟨2, ob, op, true, f⟩ = reachE s.nb s.np s.on ob (lkN s ob) from rfl, show doesSt s ⟨2, ob, op, true, f⟩ = s from rfl, show doesX s ⟨2, ob, op, true, f⟩ = readX s ob (lkN s ob) from rfl]
          have HL : Hid ((readX s ob (lkN s ob)).length = 288) := (readX_isR h ob (lkN s ob)).1
          have hlk := slook_any c s bb cr PV ob _ (h.below hb0)
          generalize lkW s ob = lw at *
          generalize lkB s ob = lb at *
          generalize lkN s ob = ln at *
          have o3 := hO0.cell' (i := 3) rfl
          go_enter Try.func19, Try.ntmps19
          go_wp2_with (first
            | (go_at_call 34; refine hlk.mono ?_; rintro e X1 ⟨rfl, hx1⟩; have hO1 := (hO0.kept hx1).alloc (.cells #[.int .i64 lw, .int .i64 ln, .bool lb] 54); have hR1 := ((hR0.kept hx1).alloc (.cells #[.int .i64 lw, .int .i64 ln, .bool lb] 54)).setOther ⟨w.heap.size, 2, none⟩ (.int .i64 ln) (by show w.heap.size + 1 ≠ w.heap.size; omega); have hbn : Below w.heap.size w ((X1.alloc (.cells #[.int .i64 lw, .int .i64 ln, .bool lb] 54)).setCell ⟨w.heap.size, 2, none⟩ (.int .i64 ln)) := (bt (bt hb0 hx1) (below_alloc _ _)).setCell (Nat.le_refl _) _; have hOn := hO1.set 2 (.int .i64 ln); have o0 := hO1.cell' (i := 0) rfl; have o1 := hO1.cell' (i := 1) rfl; have o2 := hO1.cell' (i := 2) rfl; have o4 := hO1.cell' (i := 4) rfl; have f2 := hO1.frozen 2; clear hlk)
            | (go_at_call 46; refine (hq _ (h.below hbn)).mono ?_; rintro e X2 ⟨rfl, hx2⟩; have hR2 := hR1.kept hx2)
            | (refine wpList_store_blk rfl 46 (.tmp 4) _ rfl _ _ (vals (readX s ob ln)) rfl rfl hR2 (by rw [vals_length, vals_length, HL.out, fillP_length]; exact Nat.le_of_eq (by first | rfl | simp)) (sizeP HL.out) (vals_one _) ?_; intro w9 h9 ht9; rw [whole_row (by rw [vals_length, vals_length, HL.out, fillP_length])] at h9))
          exact ret_pageE Try.results19 rfl h9 HL.out rfl rfl ⟨rfl, RAft.refused h (ht9.below (bt hbn hx2) (by omega))⟩
        · by_cases n3 : od = 3
          · subst n3
            have hb0 : Below w.heap.size w ((w.alloc (.cells #[.int .i64 3, .int .i64 ob, .int .i64 op, .bool true, .int .u8 (f : Int)] 39)).alloc (.cells (vals (fillP 0)).toArray 46)) := bt (below_alloc w _) (below_alloc _ _)
            have hO0 : Blk ((w.alloc (.cells #[.int .i64 3, .int .i64 ob, .int .i64 op, .bool true, .int .u8 (f : Int)] 39)).alloc (.cells (vals (fillP 0)).toArray 46)) w.heap.size 39 [.int .i64 3, .int .i64 ob, .int .i64 op, .bool true, .int .u8 (f : Int)] := (Blk.new' w 39 #[.int .i64 3, .int .i64 ob, .int .i64 op, .bool true, .int .u8 (f : Int)]).alloc _
            have hR0 : Blk ((w.alloc (.cells #[.int .i64 3, .int .i64 ob, .int .i64 op, .bool true, .int .u8 (f : Int)] 39)).alloc (.cells (vals (fillP 0)).toArray 46)) (w.heap.size + 1) 46 (vals (fillP 0)) := by have := Blk.new (w.alloc (.cells #[.int .i64 3, .int .i64 ob, .int .i64 op, .bool true, .int .u8 (f : Int)] 39)) 46 (vals (fillP 0)); rwa [World.size_alloc] at this
            have hfl := fun k (hk : fpOf c bb PV s.nb k) => h.lt hk
            rw [show doesE s ⟨3, ob, op, true, f⟩ = 0 from rfl, show doesSt s ⟨3, ob, op, true, f⟩ = { s with on := true } from rfl, show doesX s ⟨3, ob, op, true, f⟩ = fillP 0 from rfl]
            have hlk := slook_any c s bb cr PV ob _ (h.below hb0)
            generalize lkW s ob = lw at *
            generalize lkB s ob = lb at *
            generalize lkN s ob = ln at *
            have o3 := hO0.cell' (i := 3) rfl
            go_enter Try.func19, Try.ntmps19
            go_wp2_with (first
              | (go_at_call 34; refine hlk.mono ?_; rintro e X1 ⟨rfl, hx1⟩; have hO1 := (hO0.kept hx1).alloc (.cells #[.int .i64 lw, .int .i64 ln, .bool lb] 54); have hR1 := ((hR0.kept hx1).alloc (.cells #[.int .i64 lw, .int .i64 ln, .bool lb] 54)).setOther ⟨w.heap.size, 2, none⟩ (.int .i64 ln) (by show w.heap.size + 1 ≠ w.heap.size; omega); have hbn : Below w.heap.size w ((X1.alloc (.cells #[.int .i64 lw, .int .i64 ln, .bool lb] 54)).setCell ⟨w.heap.size, 2, none⟩ (.int .i64 ln)) := (bt (bt hb0 hx1) (below_alloc _ _)).setCell (Nat.le_refl _) _; have hOn := hO1.set 2 (.int .i64 ln); have o0 := hO1.cell' (i := 0) rfl; have o1 := hO1.cell' (i := 1) rfl; have o2 := hO1.cell' (i := 2) rfl; have o4 := hO1.cell' (i := 4) rfl; have f2 := hO1.frozen 2; obtain ⟨ep5, el5, ec5, hc5, _⟩ := (h.below (bt (bt hb0 hx1) (below_alloc X1 (.cells #[.int .i64 lw, .int .i64 ln, .bool lb] 54)))).chip; have c5 := hc5.cell' (i := 5) rfl; have f5 := hc5.frozen 5; have hcl := h.lt (.inl rfl); have hcw : c ≠ w.heap.size := (by omega); have hA2 := RAft.restart (h.below hbn); have hR2 := hR1.rafter hA2 (fun e => by have := hfl _ e; omega); clear hlk)
              | (refine wpList_store_blk rfl 46 (.tmp 4) _ rfl _ _ (vals (fillP 0)) rfl rfl hR2 (Nat.le_of_eq (Nat.zero_add _)) (sizeP (fillP_length _)) (vals_one _) ?_; intro w9 h9 ht9; rw [whole_row rfl] at h9))
            exact ret_pageE Try.results19 rfl h9 (fillP_length _) rfl rfl ⟨rfl, (RAft.of hbn hA2).same (keep_same ht9 hR2 h9)⟩
          · have hb0 : Below w.heap.size w ((w.alloc (.cells #[.int .i64 od, .int .i64 ob, .int .i64 op, .bool true, .int .u8 (f : Int)] 39)).alloc (.cells (vals (fillP 0)).toArray 46)) := bt (below_alloc w _) (below_alloc _ _)
            have hO0 : Blk ((w.alloc (.cells #[.int .i64 od, .int .i64 ob, .int .i64 op, .bool true, .int .u8 (f : Int)] 39)).alloc (.cells (vals (fillP 0)).toArray 46)) w.heap.size 39 [.int .i64 od, .int .i64 ob, .int .i64 op, .bool true, .int .u8 (f : Int)] := (Blk.new' w 39 #[.int .i64 od, .int .i64 ob, .int .i64 op, .bool true, .int .u8 (f : Int)]).alloc _
            have hR0 : Blk ((w.alloc (.cells #[.int .i64 od, .int .i64 ob, .int .i64 op, .bool true, .int .u8 (f : Int)] 39)).alloc (.cells (vals (fillP 0)).toArray 46)) (w.heap.size + 1) 46 (vals (fillP 0)) := by have := Blk.new (w.alloc (.cells #[.int .i64 od, .int .i64 ob, .int .i64 op, .bool true, .int .u8 (f : Int)] 39)) 46 (vals (fillP 0)); rwa [World.size_alloc] at this
            have hfl := fun k (hk : fpOf c bb PV s.nb k) => h.lt hk
            rw [show doesE s ⟨od, ob, op, true, f⟩ = 0 from by simp [doesE, n0, n1, n2], show doesSt s ⟨od, ob, op, true, f⟩ = s from by simp [doesSt, n0, n1, n3], show doesX s ⟨od, ob, op, true, f⟩ = fillP 0 from by simp [doesX, n2]]
            have m0 : (od == 0) = false := by simpa using n0
            have m1 : (od == 1) = false := by simpa using n1
            have m2 : (od == 2) = false := by simpa using n2
            have m3 : (od == 3) = false := by simpa using n3
            have hlk := slook_any c s bb cr PV ob _ (h.below hb0)
            generalize lkW s ob = lw at *
            generalize lkB s ob = lb at *
            generalize lkN s ob = ln at *
            have o3 := hO0.cell' (i := 3) rfl
            go_enter Try.func19, Try.ntmps19
            go_wp2_with (first
              | (go_at_call 34; refine hlk.mono ?_; rintro e X1 ⟨rfl, hx1⟩; have hO1 := (hO0.kept hx1).alloc (.cells #[.int .i64 lw, .int .i64 ln, .bool lb] 54); have hR1 := ((hR0.kept hx1).alloc (.cells #[.int .i64 lw, .int .i64 ln, .bool lb] 54)).setOther ⟨w.heap.size, 2, none⟩ (.int .i64 ln) (by show w.heap.size + 1 ≠ w.heap.size; omega); have hbn : Below w.heap.size w ((X1.alloc (.cells #[.int .i64 lw, .int .i64 ln, .bool lb] 54)).setCell ⟨w.heap.size, 2, none⟩ (.int .i64 ln)) := (bt (bt hb0 hx1) (below_alloc _ _)).setCell (Nat.le_refl _) _; have hOn := hO1.set 2 (.int .i64 ln); have o0 := hO1.cell' (i := 0) rfl; have o1 := hO1.cell' (i := 1) rfl; have o2 := hO1.cell' (i := 2) rfl; have o4 := hO1.cell' (i := 4) rfl; have f2 := hO1.frozen 2; clear hlk)
              | (refine wpList_store_blk rfl 46 (.tmp 4) _ rfl _ _ (vals (fillP 0)) rfl rfl hR1 (Nat.le_of_eq (Nat.zero_add _)) (sizeP (fillP_length _)) (vals_one _) ?_; intro w9 h9 ht9; rw [whole_row rfl] at h9))
            exact ret_pageE Try.results19 rfl h9 (fillP_length _) rfl rfl ⟨rfl, RAft.refused h (ht9.below hbn (by omega))⟩
end Go.Proofs.Ythafcnilhloldaa
