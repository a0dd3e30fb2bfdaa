/-
  Where the newest copy of a page stands.
-/
import Derived.Test.YthibaefoioeghaaPlFit2
import Derived.Test.YthibaefoioeghaaPlStand
namespace Go.Proofs.Ythibaefoioeghaa
open Go.RowKit
def whereP (T : Tab) (P k : Nat) : Int × Int := (standP T P (k / P)).getD (k % P) (-1, 0)
def whereE (T : Tab) (page : Int) : (Int × Int) × Bool :=
  if hasPg (fitT T) page then (if (whereP (fitT T) (fitT T).pages.toNat page.toNat).1 = -1 then ((0, 0), false) else (whereP (fitT T) (fitT T).pages.toNat page.toNat, true)) else ((0, 0), false)
theorem ret_placeB {fn : Func} {p u : Tmp} (h : fn.results = #[.cell p 41, .tmp u]) {R : Ending → World → Prop} {a : Act} {w : World} {g : Nat} {t : TypeId} {x y v : Value} (hp : a.tmps.getD p undef = .pointer (some ⟨g, 0, none⟩))
    (hb : Blk w g t [x, y]) (hd : a.defers = []) (hu : a.tmps.getD u undef = v) (hR : R (.returned (.tuple #[.agg #[x, y], v])) w) : bodyPost Try.prog fn R .ret a w := by
  refine bodyPost_ret (v := .tuple #[.agg #[x, y], v]) ?_ hd hR
  rw [results_cell_tmp h, hp, hu]
  simp only [asAddr, Sem.run_pure, Result.andThen_ok, run_loadVar_mid w g 0 41 [x, y] _ (hb.range 0 2 _ rfl) Try.underlying41 rfl (by kernel_rfl)]
set_option linter.unusedSimpArgs false in
set_option maxRecDepth 100000 in
set_option maxHeartbeats 8000000 in
theorem where_any (V : TabV) (T : Tab) (page : Int) (w : World) (h : TabIn w V T) :
    Calls Try.prog 23 #[.agg (tabA V T), .int .i64 page] w fun e w' => e = .returned (.tuple #[.agg #[.int .i64 (whereE T page).1.1, .int .i64 (whereE T page).1.2], .bool (whereE T page).2]) ∧ Below w.heap.size w w' := by
  have hb0 := bt (below_alloc w (.cells (tabA V T) 28)) (below_alloc (w.alloc (.cells (tabA V T) 28)) (.cells #[.int .i64 0, .int .i64 0] 41))
  have b0 := (Blk.new' w 28 (tabA V T)).alloc (.cells #[.int .i64 0, .int .i64 0] 41)
  have r0 := Blk.new' (w.alloc (.cells (tabA V T) 28)) 41 #[.int .i64 0, .int .i64 0]
  rw [World.size_alloc] at r0
  have hT := h.below hb0
  have hfit := fit_any2 V T _ hT
  have hokF := okT_fit T
  obtain ⟨we, hwe⟩ : ∃ we, whereE T page = we := ⟨_, rfl⟩
  rw [hwe]
  unfold whereE at hwe
  generalize fitT T = F at *
  have HWE : Hid ((if hasPg F page then (if (whereP F F.pages.toNat page.toNat).1 = -1 then ((0, 0), false) else (whereP F F.pages.toNat page.toNat, true)) else ((0, 0), false)) = we) := hwe
  clear hwe hT
  unfold tabA at hb0 b0 r0 hfit ⊢
  go_enter Try.func23, Try.ntmps23
  go_upto_region 1 with fail
  generalize hW : (w.alloc (.cells #[.int .i64 T.pages, .int .i64 T.logical, .int .i64 T.k, .slice V.pd V.nd V.cd, .slice V.ph V.nh V.ch, .int .i64 T.sp, .int .i64 T.sl, .int .i64 T.su, .slice V.pl V.nl V.cl] 28)).alloc (.cells #[.int .i64 0, .int .i64 0] 41) = W0 at *
  have hsz := r0.lt
  clear hW
  have HFA : Hid (∀ V' w2, (F = T ∧ V' = V ∨ OwnT W0.heap.size w2 V' F []) → ∀ W8, Below w.heap.size w W8 → Turned w2 W8 w.heap.size → TabIn W8 V' F) := by
    intro V' w2 ha W8 hb ht
    rcases ha with ⟨e1, e2⟩ | ho
    · rw [e1, e2]; exact h.below hb
    · exact (ho.turnedAt ht (by omega)).inT
  have y0 := b0.cell' (i := 0) rfl; have y1 := b0.cell' (i := 1) rfl; have y2 := b0.cell' (i := 2) rfl; have y3 := b0.cell' (i := 3) rfl; have y4 := b0.cell' (i := 4) rfl; have y5 := b0.cell' (i := 5) rfl; have y6 := b0.cell' (i := 6) rfl; have y7 := b0.cell' (i := 7) rfl; have y8 := b0.cell' (i := 8) rfl
  go_upto_region 2 with (first | (go_at_call 54; refine hfit.mono ?_; rintro e w2 ⟨V', rfl, ha, k2⟩; have b2 := b0.kept k2; have r2 := r0.kept k2; replace hb0 := bt hb0 k2) | (refine wpList_store_blk rfl 28 (.tmp 2) (.tmp 8) rfl w.heap.size 0 (tabC V' F) rfl rfl b2 (by exact Nat.le_refl _) (tabSize _ _) (tabOne _ _) ?_; intro W8 h8 ht8; rw [whole_row (by rfl)] at h8))
  have hT8 := HFA.out V' w2 ha W8 (ht8.below hb0 (Nat.le_refl _)) ht8
  have hb8 := ht8.below hb0 (Nat.le_refl _)
  have r8 := r2.turned ht8 (by omega)
  clear HFA ha hfit b0 r0 hb0 b2 r2 k2 ht8 y0 y1 y2 y3 y4 y5 y6 y7 y8
  obtain ⟨P, L, hF⟩ := okT_facts hokF hT8
  have hpg := fun w => hasPage_any V' F page w (by have := okT_prod hokF; omega)
  have HFk : Hid (F.pages.toNat = P) := by show _ = _; rw [hF.pg]; rfl
  cases hpq : hasPg F page with
  | false =>
    have HW0 : Hid (we = ((0, 0), false)) := by show _ = _; rw [← HWE.out, hpq]; rfl
    rw [hpq] at hpg
    have y0 := h8.cell' (i := 0) rfl; have y1 := h8.cell' (i := 1) rfl; have y2 := h8.cell' (i := 2) rfl; have y3 := h8.cell' (i := 3) rfl; have y4 := h8.cell' (i := 4) rfl; have y5 := h8.cell' (i := 5) rfl; have y6 := h8.cell' (i := 6) rfl; have y7 := h8.cell' (i := 7) rfl; have y8 := h8.cell' (i := 8) rfl
    unfold tabA at hpg
    clear hF hpq
    go_wp2_with (first | (go_at_call 55; refine (hpg _).mono ?_; rintro e w3 ⟨rfl, k3⟩; have r9 := r8.kept k3) | (refine wpList_store_blk rfl 41 (.tmp 4) (.tmp 13) rfl (w.heap.size + 1) 0 [.int .i64 0, .int .i64 0] rfl rfl r9 (by simp) (sizeP2 _ _) (one2 _ _) ?_; intro W9 h9 ht9; rw [whole_row (by rfl)] at h9))
    exact ret_placeB Try.results23 rfl h9 rfl rfl ⟨by rw [HW0.out]; rfl, ht9.below (bt hb8 k3) (by omega)⟩
  | true =>
    have hpp : 0 ≤ page ∧ page ≤ F.logical * F.pages - 1 := by
      unfold hasPg at hpq
      simpa only [Bool.and_eq_true, decide_eq_true_eq] using hpq
    obtain ⟨k, rfl⟩ : ∃ k : Nat, page = (k : Int) := ⟨page.toNat, by omega⟩
    rw [hF.pg, hF.lg, ← Int.natCast_mul] at hpp
    have hkL : k < L * P := by omega
    have hPpos : 0 < P := by have := hF.p0; omega
    have hkd : k / P < L := (Nat.div_lt_iff_lt_mul hPpos).2 hkL
    have hprodb : L * P ≤ 8192 := Nat.le_trans (Nat.mul_le_mul hF.l0.2 hF.p0.2) (by omega)
    obtain ⟨q, hq⟩ : ∃ q, k / P = q := ⟨_, rfl⟩
    obtain ⟨r, hr⟩ : ∃ r, k % P = r := ⟨_, rfl⟩
    have hrP : r < P := by rw [← hr]; exact Nat.mod_lt _ hPpos
    rw [hq] at hkd
    have hst := fun W (hT : TabIn W V' F) => standing_any V' F P L q W hT hF.pg hF.p0 hF.nd hF.nh hF.l0.2 hkd hF.po
    obtain ⟨x, hpl⟩ : ∃ x, (standP F P q)[r]? = some x := ⟨_, List.getElem?_eq_getElem (by rw [standP_length]; exact hrP)⟩
    have HX : Hid (whereP F P k = x) := by show _ = _; unfold whereP; rw [hq, hr, List.getD_eq_getElem?_getD, hpl]; rfl
    have hPn : ¬ P = 0 := by omega
    have hqb : q ≤ 100000000 := by have := hF.l0; omega
    have hq1 : IntKind.i64.wrap ((k : Int) / (P : Int)) = (q : Int) := by rw [← Int.natCast_ediv, hq]; exact wrapN q hqb
    have hq2 : wrap64 ((k : Int) / (P : Int)) = (q : Int) := (IntWalk.i64_left _).symm.trans hq1
    have hr0 : (k : Int).tmod (P : Int) = (r : Int) := by rw [Int.tmod_eq_emod_of_nonneg (Int.natCast_nonneg k), ← Int.natCast_emod, hr]
    have hrP1 : (r : Int) < (P : Int) := Int.ofNat_lt.2 hrP
    have HWX : Hid (we = if x.1 = -1 then ((0, 0), false) else (x, true)) := by show _ = _; rw [← HWE.out, hpq, HFk.out, Int.toNat_natCast, HX.out]; rfl
    rw [hpq] at hpg
    have hpage := hF.pg
    have hlog := hF.lg
    unfold tabC at h8
    unfold tabA at hpg hst
    rw [hpage, hlog] at h8 hpg hst
    clear hF hpq hpp hq hr HFk HX HWE hkL hPpos hprodb hokF
    have y0 := h8.cell' (i := 0) rfl; have y1 := h8.cell' (i := 1) rfl; have y2 := h8.cell' (i := 2) rfl; have y3 := h8.cell' (i := 3) rfl; have y4 := h8.cell' (i := 4) rfl; have y5 := h8.cell' (i := 5) rfl; have y6 := h8.cell' (i := 6) rfl; have y7 := h8.cell' (i := 7) rfl; have y8 := h8.cell' (i := 8) rfl
    go_upto_region 4 with (go_at_call 55; refine (hpg _).mono ?_; rintro e w3 ⟨rfl, k3⟩)
    replace h8 := h8.kept k3
    replace r8 := r8.kept k3
    replace hb8 := bt hb8 k3
    replace hT8 := hT8.below k3
    clear k3 y0 y1 y2 y3 y4 y5 y6 y7 y8 hpg
    go_cut [6] from 14 (fun s6 wc => ∃ g6, s6 = .pointer (some ⟨g6, 0, none⟩) ∧ Blk wc g6 41 [.int .i64 x.1, .int .i64 x.2] ∧ Blk wc (w.heap.size + 1) 41 [.int .i64 0, .int .i64 0] ∧ Below w.heap.size w wc ∧ w.heap.size + 2 ≤ g6)
    case first =>
      refine wp_region_noPanic ?_
      refine wp_region_held_drew (S := fun W' => Blk W' w.heap.size 28 [.int .i64 (P : Int), .int .i64 (L : Int), .int .i64 F.k, .slice V'.pd V'.nd V'.cd, .slice V'.ph V'.nh V'.ch, .int .i64 F.sp, .int .i64 F.sl, .int .i64 F.su, .slice V'.pl V'.nl V'.cl] ∧ Blk W' (w.heap.size + 1) 41 [.int .i64 0, .int .i64 0] ∧ Below w.heap.size w W') (by kernel_rfl) ⟨h8.drew, r8.drew, hb8.drew⟩ (fun hHeld => ?_)
      replace hT8 : TabIn w3.drew V' F := hT8.below ((Below.refl _ _).drew)
      clear h8 r8 hb8
      generalize w3.drew = W0 at *
      refine wpAnyH_take (i := 0) (v := ?_) rfl (by kernel_rfl) (by kernel_rfl) (by kernel_rfl) (fun _ _ _ h => h) (Or.inl ⟨by rfl, ?_⟩) hHeld ?_
      rotate_left
      · intro w' hSw; try dsimp only at hSw
        have z0 := hSw.1.cell' (i := 0) rfl; have z1 := hSw.1.cell' (i := 1) rfl; have z2 := hSw.1.cell' (i := 2) rfl; have z3 := hSw.1.cell' (i := 3) rfl; have z4 := hSw.1.cell' (i := 4) rfl; have z5 := hSw.1.cell' (i := 5) rfl; have z6 := hSw.1.cell' (i := 6) rfl; have z7 := hSw.1.cell' (i := 7) rfl; have z8 := hSw.1.cell' (i := 8) rfl
        go_simp; try (with_reducible rfl)
      try simp only [Act.put, List.getElem_toArray, List.getElem_cons_succ, List.getElem_cons_zero, List.setIfInBounds_toArray, List.set_cons_zero, List.set_cons_succ]
      refine wpAnyH_take (i := 1) (v := ?_) rfl (by kernel_rfl) (by kernel_rfl) (by kernel_rfl) (fun _ _ _ h => h) (Or.inl ⟨by rfl, ?_⟩) hHeld ?_
      rotate_left
      · intro w' hSw; try dsimp only at hSw
        go_simp; try (with_reducible rfl)
      try simp only [Act.put, List.getElem_toArray, List.getElem_cons_succ, List.getElem_cons_zero, List.setIfInBounds_toArray, List.set_cons_zero, List.set_cons_succ]
      refine wpAnyH_take (i := 2) (v := ?_) rfl (by kernel_rfl) (by kernel_rfl) (by kernel_rfl) (fun _ _ _ h => h) (Or.inl ⟨by rfl, ?_⟩) hHeld ?_
      rotate_left
      · intro w' hSw; try dsimp only at hSw
        go_simp; try (with_reducible rfl)
      try simp only [Act.put, List.getElem_toArray, List.getElem_cons_succ, List.getElem_cons_zero, List.setIfInBounds_toArray, List.set_cons_zero, List.set_cons_succ]
      refine wpAnyH_take (i := 3) (v := ?_) rfl (by kernel_rfl) (by kernel_rfl) (by kernel_rfl) (fun _ _ _ h => h) (Or.inl ⟨by rfl, ?_⟩) hHeld ?_
      rotate_left
      · intro w' hSw; try dsimp only at hSw
        have z0 := hSw.1.cell' (i := 0) rfl; have z1 := hSw.1.cell' (i := 1) rfl; have z2 := hSw.1.cell' (i := 2) rfl; have z3 := hSw.1.cell' (i := 3) rfl; have z4 := hSw.1.cell' (i := 4) rfl; have z5 := hSw.1.cell' (i := 5) rfl; have z6 := hSw.1.cell' (i := 6) rfl; have z7 := hSw.1.cell' (i := 7) rfl; have z8 := hSw.1.cell' (i := 8) rfl
        go_simp; try (with_reducible rfl)
      try simp only [Act.put, List.getElem_toArray, List.getElem_cons_succ, List.getElem_cons_zero, List.setIfInBounds_toArray, List.set_cons_zero, List.set_cons_succ]
      refine wpAnyH_take (i := 4) (v := ?_) rfl (by kernel_rfl) (by kernel_rfl) (by kernel_rfl) (fun _ _ _ h => h) (Or.inl ⟨by rfl, ?_⟩) hHeld ?_
      rotate_left
      · intro w' hSw; try dsimp only at hSw
        go_simp; try (with_reducible rfl)
      try simp only [Act.put, List.getElem_toArray, List.getElem_cons_succ, List.getElem_cons_zero, List.setIfInBounds_toArray, List.set_cons_zero, List.set_cons_succ]
      refine wpAnyH_take (i := 6) (v := ?_) rfl (by kernel_rfl) (by kernel_rfl) (by kernel_rfl) (fun _ _ _ h => h) (Or.inl ⟨by rfl, ?_⟩) hHeld ?_
      rotate_left
      · intro w' hSw; try dsimp only at hSw
        go_simp; try (with_reducible rfl)
      try simp only [Act.put, List.getElem_toArray, List.getElem_cons_succ, List.getElem_cons_zero, List.setIfInBounds_toArray, List.set_cons_zero, List.set_cons_succ]
      refine wpAnyH_take (i := 7) (v := ?_) rfl (by kernel_rfl) (by kernel_rfl) (by kernel_rfl) (fun _ _ _ h => h) (Or.inl ⟨by rfl, ?_⟩) hHeld ?_
      rotate_left
      · intro w' hSw; try dsimp only at hSw
        go_simp; try (with_reducible rfl)
      try simp only [Act.put, List.getElem_toArray, List.getElem_cons_succ, List.getElem_cons_zero, List.setIfInBounds_toArray, List.set_cons_zero, List.set_cons_succ]
      refine wpAnyH_take (i := 8) (v := ?_) rfl (by kernel_rfl) (by kernel_rfl) (by kernel_rfl) (fun _ _ _ h => h) (Or.inl ⟨by rfl, ?_⟩) hHeld ?_
      rotate_left
      · intro w' hSw; try dsimp only at hSw
        have z0 := hSw.1.cell' (i := 0) rfl; have z1 := hSw.1.cell' (i := 1) rfl; have z2 := hSw.1.cell' (i := 2) rfl; have z3 := hSw.1.cell' (i := 3) rfl; have z4 := hSw.1.cell' (i := 4) rfl; have z5 := hSw.1.cell' (i := 5) rfl; have z6 := hSw.1.cell' (i := 6) rfl; have z7 := hSw.1.cell' (i := 7) rfl; have z8 := hSw.1.cell' (i := 8) rfl
        go_simp; try (with_reducible rfl)
      try simp only [Act.put, List.getElem_toArray, List.getElem_cons_succ, List.getElem_cons_zero, List.setIfInBounds_toArray, List.set_cons_zero, List.set_cons_succ]
      refine wpAnyH_take (i := 9) (v := ?_) rfl (by kernel_rfl) (by kernel_rfl) (by kernel_rfl) (fun _ _ _ h => h) (Or.inl ⟨by rfl, ?_⟩) hHeld ?_
      rotate_left
      · intro w' hSw; try dsimp only at hSw
        go_simp; try (with_reducible rfl)
      try simp only [Act.put, List.getElem_toArray, List.getElem_cons_succ, List.getElem_cons_zero, List.setIfInBounds_toArray, List.set_cons_zero, List.set_cons_succ]
      refine wpAnyH_ready (rs := [5, 12]) (by kernel_rfl) (by simp) ?_
      refine AllReadyH.cons rfl (fun K hK => ?_) ?_
      · go_simp
        refine (hst _ hT8).mono ?_
        rintro e W1 ⟨gs, rfl, f5, hgs, k5⟩
        try go_wp2_with fail
        refine hK.out _ _ ⟨hHeld.1.kept k5, hHeld.2.1.kept k5, bt hHeld.2.2 k5⟩ (fun hHeld => ?_)
        clear hK K
        try simp only [Act.put, List.getElem_toArray, List.getElem_cons_succ, List.getElem_cons_zero, List.setIfInBounds_toArray, List.set_cons_zero, List.set_cons_succ]
        replace hT8 := hT8.below k5
        clear k5
        clear hgs
        refine wpAnyH_take (i := 10) (v := ?_) rfl (by kernel_rfl) (by kernel_rfl) (by kernel_rfl) (fun _ _ _ h => h) (Or.inl ⟨by rfl, ?_⟩) hHeld ?_
        rotate_left
        · intro w' hSw; try dsimp only at hSw
          go_simp; try (with_reducible rfl)
        try simp only [Act.put, List.getElem_toArray, List.getElem_cons_succ, List.getElem_cons_zero, List.setIfInBounds_toArray, List.set_cons_zero, List.set_cons_succ]
        refine wpAnyH_ready (rs := [11, 12]) (by kernel_rfl) (by simp) ?_
        refine AllReadyH.cons rfl (fun K hK => ?_) ?_
        · have q0 := f5.cell' (flatP_at hpl).1
          have q1 := f5.cell' (flatP_at hpl).2
          go_simp
          refine hK.out _ _ hHeld (fun hHeld => ?_)
          clear hK K
          try simp only [Act.put, List.getElem_toArray, List.getElem_cons_succ, List.getElem_cons_zero, List.setIfInBounds_toArray, List.set_cons_zero, List.set_cons_succ]
          clear q0 q1
          refine wpAnyH_ready (rs := [12]) (by kernel_rfl) (by simp) ?_
          refine AllReadyH.cons rfl (fun K hK => ?_) AllReadyH.nil
          have hHeldOld := hHeld
          go_simp
          refine hK.out _ _ ⟨hHeld.1.alloc _, hHeld.2.1.alloc _, bt hHeld.2.2 (below_alloc _ _)⟩ (fun hHeld => ?_)
          clear hK K
          try simp only [Act.put, List.getElem_toArray, List.getElem_cons_succ, List.getElem_cons_zero, List.setIfInBounds_toArray, List.set_cons_zero, List.set_cons_succ]
          have k12 := below_alloc W1 (.cells #[.int .i64 0, .int .i64 0] 41)
          have f12 := Blk.new' W1 41 #[.int .i64 0, .int .i64 0]
          replace hT8 := hT8.below k12
          replace f5 := f5.kept k12
          obtain ⟨g6, hg6⟩ : ∃ g, g = W1.heap.size := ⟨_, rfl⟩
          rw [← hg6] at f12 ⊢
          have hg6a : w.heap.size + 2 ≤ g6 := by rw [hg6]; have := hHeldOld.2.1.lt; omega
          clear hg6 k12
          generalize W1.alloc (.cells #[.int .i64 0, .int .i64 0] 41) = W1a at *
          clear hHeldOld
          refine wpAnyH_ready (rs := [13]) (by kernel_rfl) (by simp) ?_
          refine AllReadyH.cons rfl (fun K hK => ?_) AllReadyH.nil
          rw [if_pos (by rfl)]
          refine wp_store_blk 41 (.tmp 6) (.tmp 25) rfl g6 0 [.int .i64 x.1, .int .i64 x.2] rfl rfl f12 (by simp) (sizeP2 _ _) (one2 _ _) ?_
          intro W9 h9 ht9
          rw [whole_row (by rfl)] at h9
          refine hK.out _ _ ⟨hHeld.1.turned ht9 (by omega), hHeld.2.1.turned ht9 (by omega), ht9.below hHeld.2.2 (by omega)⟩ (fun hHeld => ?_)
          clear hK K
          try simp only [Act.put, List.getElem_toArray, List.getElem_cons_succ, List.getElem_cons_zero, List.setIfInBounds_toArray, List.set_cons_zero, List.set_cons_succ]
          refine wpAnyH_done (by kernel_rfl) ?_ _
          refine NoPanic.normal ?_
          go_wp2_with fail
          go_meet
          case rel => exact ⟨g6, rfl, h9, hHeld.2.1, hHeld.2.2, by omega⟩
        refine AllReadyH.cons rfl (fun K hK => ?_) AllReadyH.nil
        have hHeldOld := hHeld
        go_simp
        refine hK.out _ _ ⟨hHeld.1.alloc _, hHeld.2.1.alloc _, bt hHeld.2.2 (below_alloc _ _)⟩ (fun hHeld => ?_)
        clear hK K
        try simp only [Act.put, List.getElem_toArray, List.getElem_cons_succ, List.getElem_cons_zero, List.setIfInBounds_toArray, List.set_cons_zero, List.set_cons_succ]
        have k12 := below_alloc W1 (.cells #[.int .i64 0, .int .i64 0] 41)
        have f12 := Blk.new' W1 41 #[.int .i64 0, .int .i64 0]
        replace hT8 := hT8.below k12
        replace f5 := f5.kept k12
        obtain ⟨g6, hg6⟩ : ∃ g, g = W1.heap.size := ⟨_, rfl⟩
        rw [← hg6] at f12 ⊢
        have hg6a : w.heap.size + 2 ≤ g6 := by rw [hg6]; have := hHeldOld.2.1.lt; omega
        clear hg6 k12
        generalize W1.alloc (.cells #[.int .i64 0, .int .i64 0] 41) = W1a at *
        clear hHeldOld
        refine wpAnyH_ready (rs := [11]) (by kernel_rfl) (by simp) ?_
        refine AllReadyH.cons rfl (fun K hK => ?_) AllReadyH.nil
        have q0 := f5.cell' (flatP_at hpl).1
        have q1 := f5.cell' (flatP_at hpl).2
        go_simp
        refine hK.out _ _ hHeld (fun hHeld => ?_)
        clear hK K
        try simp only [Act.put, List.getElem_toArray, List.getElem_cons_succ, List.getElem_cons_zero, List.setIfInBounds_toArray, List.set_cons_zero, List.set_cons_succ]
        clear q0 q1
        refine wpAnyH_ready (rs := [13]) (by kernel_rfl) (by simp) ?_
        refine AllReadyH.cons rfl (fun K hK => ?_) AllReadyH.nil
        rw [if_pos (by rfl)]
        refine wp_store_blk 41 (.tmp 6) (.tmp 25) rfl g6 0 [.int .i64 x.1, .int .i64 x.2] rfl rfl f12 (by simp) (sizeP2 _ _) (one2 _ _) ?_
        intro W9 h9 ht9
        rw [whole_row (by rfl)] at h9
        refine hK.out _ _ ⟨hHeld.1.turned ht9 (by omega), hHeld.2.1.turned ht9 (by omega), ht9.below hHeld.2.2 (by omega)⟩ (fun hHeld => ?_)
        clear hK K
        try simp only [Act.put, List.getElem_toArray, List.getElem_cons_succ, List.getElem_cons_zero, List.setIfInBounds_toArray, List.set_cons_zero, List.set_cons_succ]
        refine wpAnyH_done (by kernel_rfl) ?_ _
        refine NoPanic.normal ?_
        go_wp2_with fail
        go_meet
        case rel => exact ⟨g6, rfl, h9, hHeld.2.1, hHeld.2.2, by omega⟩
      refine AllReadyH.cons rfl (fun K hK => ?_) AllReadyH.nil
      have hHeldOld := hHeld
      go_simp
      refine hK.out _ _ ⟨hHeld.1.alloc _, hHeld.2.1.alloc _, bt hHeld.2.2 (below_alloc _ _)⟩ (fun hHeld => ?_)
      clear hK K
      try simp only [Act.put, List.getElem_toArray, List.getElem_cons_succ, List.getElem_cons_zero, List.setIfInBounds_toArray, List.set_cons_zero, List.set_cons_succ]
      have k12 := below_alloc W0 (.cells #[.int .i64 0, .int .i64 0] 41)
      have f12 := Blk.new' W0 41 #[.int .i64 0, .int .i64 0]
      replace hT8 := hT8.below k12
      obtain ⟨g6, hg6⟩ : ∃ g, g = W0.heap.size := ⟨_, rfl⟩
      rw [← hg6] at f12 ⊢
      have hg6a : w.heap.size + 2 ≤ g6 := by rw [hg6]; have := hHeldOld.2.1.lt; omega
      clear hg6 k12
      generalize W0.alloc (.cells #[.int .i64 0, .int .i64 0] 41) = W0a at *
      clear hHeldOld
      refine wpAnyH_ready (rs := [5]) (by kernel_rfl) (by simp) ?_
      refine AllReadyH.cons rfl (fun K hK => ?_) AllReadyH.nil
      go_simp
      refine (hst _ hT8).mono ?_
      rintro e W1 ⟨gs, rfl, f5, hgs, k5⟩
      try go_wp2_with fail
      refine hK.out _ _ ⟨hHeld.1.kept k5, hHeld.2.1.kept k5, bt hHeld.2.2 k5⟩ (fun hHeld => ?_)
      clear hK K
      try simp only [Act.put, List.getElem_toArray, List.getElem_cons_succ, List.getElem_cons_zero, List.setIfInBounds_toArray, List.set_cons_zero, List.set_cons_succ]
      replace hT8 := hT8.below k5
      replace f12 := f12.kept k5
      clear k5
      clear hgs
      refine wpAnyH_take (i := 10) (v := ?_) rfl (by kernel_rfl) (by kernel_rfl) (by kernel_rfl) (fun _ _ _ h => h) (Or.inl ⟨by rfl, ?_⟩) hHeld ?_
      rotate_left
      · intro w' hSw; try dsimp only at hSw
        go_simp; try (with_reducible rfl)
      try simp only [Act.put, List.getElem_toArray, List.getElem_cons_succ, List.getElem_cons_zero, List.setIfInBounds_toArray, List.set_cons_zero, List.set_cons_succ]
      refine wpAnyH_ready (rs := [11]) (by kernel_rfl) (by simp) ?_
      refine AllReadyH.cons rfl (fun K hK => ?_) AllReadyH.nil
      have q0 := f5.cell' (flatP_at hpl).1
      have q1 := f5.cell' (flatP_at hpl).2
      go_simp
      refine hK.out _ _ hHeld (fun hHeld => ?_)
      clear hK K
      try simp only [Act.put, List.getElem_toArray, List.getElem_cons_succ, List.getElem_cons_zero, List.setIfInBounds_toArray, List.set_cons_zero, List.set_cons_succ]
      clear q0 q1
      refine wpAnyH_ready (rs := [13]) (by kernel_rfl) (by simp) ?_
      refine AllReadyH.cons rfl (fun K hK => ?_) AllReadyH.nil
      rw [if_pos (by rfl)]
      refine wp_store_blk 41 (.tmp 6) (.tmp 25) rfl g6 0 [.int .i64 x.1, .int .i64 x.2] rfl rfl f12 (by simp) (sizeP2 _ _) (one2 _ _) ?_
      intro W9 h9 ht9
      rw [whole_row (by rfl)] at h9
      refine hK.out _ _ ⟨hHeld.1.turned ht9 (by omega), hHeld.2.1.turned ht9 (by omega), ht9.below hHeld.2.2 (by omega)⟩ (fun hHeld => ?_)
      clear hK K
      try simp only [Act.put, List.getElem_toArray, List.getElem_cons_succ, List.getElem_cons_zero, List.setIfInBounds_toArray, List.set_cons_zero, List.set_cons_succ]
      refine wpAnyH_done (by kernel_rfl) ?_ _
      refine NoPanic.normal ?_
      go_wp2_with fail
      go_meet
      case rel => exact ⟨g6, rfl, h9, hHeld.2.1, hHeld.2.2, by omega⟩
    case rest =>
      obtain ⟨g6, rfl, f6, r6, hb6, hg6⟩ := hcut
      have u0 := f6.cell' (i := 0) rfl
      have u1 := f6.cell' (i := 1) rfl
      clear hq1 hq2 hr0
      by_cases hx : x.1 = -1
      · have HW0 : Hid (we = ((0, 0), false)) := by show _ = _; rw [HWX.out, if_pos hx]
        rw [hx] at u0
        clear hx
        go_wp2_with (refine wpList_store_blk rfl 41 (.tmp 4) (.tmp 29) rfl (w.heap.size + 1) 0 [.int .i64 0, .int .i64 0] rfl rfl r6 (by simp) (sizeP2 _ _) (one2 _ _) ?_; intro W9 h9 ht9; rw [whole_row (by rfl)] at h9)
        exact ret_placeB Try.results23 rfl h9 rfl rfl ⟨by rw [HW0.out]; rfl, ht9.below hb6 (by omega)⟩
      · have HW0 : Hid (we = (x, true)) := by show _ = _; rw [HWX.out, if_neg hx]
        have hx' : (x.1 == -1) = false := by simpa using hx
        clear hx
        obtain ⟨x1, x2⟩ := x
        go_wp2_with (refine wpList_store_blk rfl 41 (.tmp 4) (.tmp 30) rfl (w.heap.size + 1) 0 [.int .i64 x1, .int .i64 x2] rfl rfl r6 (by simp) (sizeP2 _ _) (one2 _ _) ?_; intro W9 h9 ht9; rw [whole_row (by rfl)] at h9)
        exact ret_placeB Try.results23 rfl h9 rfl rfl ⟨by rw [HW0.out]; rfl, ht9.below hb6 (by omega)⟩
end Go.Proofs.Ythibaefoioeghaa
