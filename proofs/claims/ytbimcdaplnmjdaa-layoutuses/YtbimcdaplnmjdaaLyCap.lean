/-
  layout.Capacity: how many blocks may be allocated.
-/
import Derived.Test.YtbimcdaplnmjdaaLyAll
import Derived.Test.YtbimcdaplnmjdaaLyCapP
namespace Go.Proofs.Ytbimcdaplnmjdaa
open Go.RowKit Go.Shelf
attribute [local go_sem] Oper.semAt_some
theorem KeepsOthers.of_below {A B : World} (h : Below A.heap.size A B) : KeepsOthers A B := ⟨h.size, fun k _ hk _ => (h.block k (Array.getElem?_eq_some_iff.1 hk).1).trans hk⟩
theorem KeepsOthers.of_turned {A B : World} {g : Nat} {t : TypeId} {cs : List Value} (h : Turned A B g) (hb : Blk A g t cs) : KeepsOthers A B := ⟨Nat.le_of_eq h.size.symm, fun k o hk ho => by
  by_cases e : k = g
  · subst e; rw [show A.heap[k]? = _ from hb] at hk; cases hk; cases ho
  · exact (h.block k e).trans hk⟩
theorem blk_own {β : Type} (B : Nat) (t : TypeId) (f : β → List Value) : Own (fun s W => Blk W B t (f s)) := fun s X Y row hs hg hrow =>
  (hg.block B hs.lt (fun e' => by obtain ⟨o, ho, hc⟩ := hrow B e'.symm; rw [show X.heap[B]? = _ from hs] at ho; cases ho; cases hc)).trans hs
/-- What of these groups may be allocated. -/
def capL (b j : Int) (l : List (Fin 64)) : Int := (l.map fun x => roomG b j ((x.1 : Nat) : Int)).sum
theorem capL_snoc (b j : Int) (l : List (Fin 64)) (x : Fin 64) : capL b j (l ++ [x]) = capL b j l + roomG b j ((x.1 : Nat) : Int) := by simp [capL]
theorem capL_take (b j : Int) (n : Nat) (hn : n ≤ 64) : capL b j ((List.finRange 64).take n) = capTo b j n := by
  induction n with
  | zero => rfl
  | succ n ih => rw [fin_take n (by omega), capL_snoc, ih (by omega)]; rfl
theorem capL_all (b j : Int) : capL b j (gs b j) = capN b j := by
  unfold gs
  rw [capL_take b j _ (gNn_cast b j).2]
  unfold capN gNn grpsN
  cases okS b j with
  | false => rfl
  | true => rfl
theorem roomG_rng {b : Int} (j : Int) (x : Fin 64) (h1 : -10 ≤ b) (h2 : b ≤ 8192) (h3 : 0 ≤ j) (h4 : j ≤ 64) (hd1 : 0 ≤ dN b) (hd2 : dN b ≤ 4) : -9000 ≤ roomG b j ((x.1 : Nat) : Int) ∧ roomG b j ((x.1 : Nat) : Int) ≤ 128 ∧ -9000 ≤ gLen b ((x.1 : Nat) : Int) ∧ gLen b ((x.1 : Nat) : Int) ≤ 128 ∧ 0 ≤ gData b j ((x.1 : Nat) : Int) ∧ gData b j ((x.1 : Nat) : Int) ≤ 9000 := by
  have := x.2
  unfold roomG gLen gData
  split <;> omega
theorem capL_rng {b j : Int} (h : okS b j = true) (l : List (Fin 64)) : -9000 * (l.length : Int) ≤ capL b j l ∧ capL b j l ≤ 128 * (l.length : Int) := by
  obtain ⟨d, hd, f1, f2, f3, f4, f5, f6, f7, f8, f9⟩ := okS_facts h
  induction l with
  | nil => simp [capL]
  | cons x l ih =>
    have := roomG_rng (b := b) j x (by omega) (by omega) (by omega) (by omega) (by omega) (by omega)
    unfold capL at ih ⊢
    simp only [List.map_cons, List.sum_cons, List.length_cons]
    omega
theorem all_new (b j : Int) (w : World) :
    Calls Try.prog 42 #[.agg #[.int .i64 b, .int .i64 j]] w fun e w' => e = .returned (.func (.func 66) #[] #[.pointer (some ⟨w.heap.size, 0, none⟩)]) ∧ Blk w' w.heap.size 24 [.int .i64 b, .int .i64 j] ∧ Below w.heap.size w w' := by
  refine (all_any b j w).mono ?_
  rintro e w' ⟨rfl, rfl⟩
  exact ⟨rfl, Blk.new' _ _ _, below_alloc _ _⟩
set_option linter.unusedSimpArgs false in
set_option maxRecDepth 100000 in
set_option maxHeartbeats 8000000 in
theorem cap_in (nf : Nat) (hnf : 5 ≤ nf) (b j : Int) (w : World) :
    CallsIn Fence.wide nf Try.prog 30 #[.agg #[.int .i64 b, .int .i64 j]] w fun e w' => e = .returned (.int .i64 (capN b j)) ∧ Below w.heap.size w w' := by
  have h1 : 1 ≤ nf := by omega
  have hb0 := bt (below_alloc w (.cells #[.int .i64 b, .int .i64 j] 24)) (below_alloc _ (.cells #[.int .i64 0] 3))
  have n0 := Blk.new' (w.alloc (.cells #[.int .i64 b, .int .i64 j] 24)) 3 #[.int .i64 0]
  rw [World.size_alloc] at n0
  refine callsIn_of_wp_marks Try.func30 rfl trivial ?_ rfl
  simp only [Try.ntmps30, List.size_toArray, List.length_cons, List.length_nil, Nat.reduceAdd, Nat.reduceSub, Array.replicate_succ, Array.replicate_zero, List.push_toArray, List.append_toArray, List.nil_append, List.cons_append]
  gi_wp2_with (first
    | (refine ⟨trivial, ?_⟩; gi_at_call 42; refine (callsIn_wide.2 (all_new b j _)).mono ?_; rintro e w4 ⟨rfl, q1, hb4⟩))
  have hn4 : Blk w4 (w.heap.size + 1) 3 [.int .i64 0] := n0.kept hb4
  have hB4 : Below w.heap.size w w4 := bt hb0 hb4
  simp only [World.size_alloc] at q1
  clear n0 hb0 hb4
  obtain ⟨Bn, HBn⟩ : ∃ Bn, Bn = w.heap.size + 1 := ⟨_, rfl⟩
  obtain ⟨B1, HB1⟩ : ∃ B1, B1 = w.heap.size + 1 + 1 := ⟨_, rfl⟩
  rw [← HBn] at hn4
  rw [← HB1] at q1
  rw [← HB1, ← HBn]
  have hBw : w.heap.size ≤ Bn := by omega
  have hBB : Bn < B1 := by omega
  have hB1w := q1.lt
  clear HBn HB1
  refine wpIn_rangeFunc_ownH rfl h1 (gf := 66) (lb := #[.pointer (some ⟨B1, 0, none⟩)]) rfl trivial (enters_of Try.func66 (by kernel_rfl) rfl)
    (all_stops (nf - 1) (by omega) B1 b j w4 q1) (fun h k => h.trans k)
    (fun W' l o o' hl _ _ _ => ⟨World.putObj_heap_other (by omega), by simp [World.putObj]⟩) (Below.refl _ _) (fun _ => rfl)
    (fun pre W' => Blk W' Bn 3 [.int .i64 (capL b j pre)] ∧ Below w.heap.size w W' ∧ w4.heap.size ≤ W'.heap.size)
    (fun _ _ _ => False)
    (OwnFrom.and (Own.from (blk_own Bn 3 (fun pre : List (Fin 64) => [.int .i64 (capL b j pre)])) _) (OwnFrom.and (ownFrom_below (Nat.le_refl _) hB4.size) (fun _ _ _ _ hs hg _ => Nat.le_trans hs hg.size)))
    (fun _ _ _ _ _ hs _ _ => hs)
    ⟨hn4, hB4, Nat.le_refl _⟩
    (fun x a' W => ∃ Bx, w4.heap.size ≤ Bx ∧ Blk W Bx 30 (grpA b j ((x.1 : Nat) : Int)).toList ∧ a' = { tmps := #[.agg #[.int .i64 b, .int .i64 j], .pointer (some ⟨w.heap.size, 0, none⟩), .int .i64 0, .pointer (some ⟨Bn, 0, none⟩), undef, .pointer (some ⟨Bx, 0, none⟩), .agg #[.int .i64 b, .int .i64 j], .func (.func 66) #[] #[.pointer (some ⟨B1, 0, none⟩)], .int .i64 ((x.1 : Nat) : Int), .agg (grpA b j ((x.1 : Nat) : Int)), undef, undef, undef, undef, undef], defers := [] })
    (fun x a' s X Y row ⟨Bx, h1, h2, h3⟩ hg hr => ⟨Bx, h1, (blk_own (β := Unit) Bx 30 (fun _ => (grpA b j ((x.1 : Nat) : Int)).toList)).from w4.heap.size () X Y row h2 hg hr, h3⟩)
    ?assign ?body ?done ?stop
  case assign =>
    rintro l pre x W K ⟨hn1, hn3, hn4⟩ hK
    dsimp only [encG]
    have hq : ∃ x0 x1 x2 x3 x4 x5 : Int, grpA b j ((x.1 : Nat) : Int) = #[.int .i64 x0, .int .i64 x1, .int .i64 x2, .int .i64 x3, .int .i64 x4, .int .i64 x5] := ⟨_, _, _, _, _, _, rfl⟩
    obtain ⟨x0, x1, x2, x3, x4, x5, hq⟩ := hq
    rw [hq] at hK ⊢
    gi_wp2
    exact hK _ _ ((KeepsOthers.alloc _ _).from _) (KpG.below (below_alloc _ _) (by omega)) ⟨hn1.alloc _, bt hn3 (below_alloc _ _), by rw [World.size_alloc]; omega⟩ ⟨W.heap.size, hn4, Blk.new' _ _ _, rfl⟩
  case stop =>
    rintro D c pre W' _ _ h _
    exact h.elim
  case done =>
    rintro D ys W hD rfl ⟨hn1, hn3, hn4⟩ hK
    rw [capL_all] at hn1
    have y0 := hn1.cell' (i := 0) rfl
    have hDl : D < W.heap.size := (Array.getElem?_eq_some_iff.1 hK).1
    gi_wp2
    have hD2 : w.heap.size ≤ D := Nat.le_trans hB4.size hD
    refine ⟨by simp, .inl ⟨_, _, rfl, run_takeDeferred hK, ?_⟩⟩
    have hbD : Below w.heap.size W (W.putObj D (.deferred none)) := belowK_b (w := w) (Nat.le_refl _) W D _ _ hD2 hK rfl rfl
    exact ⟨_, results_tmp Try.results30 _ _ _, rfl, hn3.trans hbD⟩
  case body =>
    rintro l pre x a' W hl2 ⟨r, hr⟩ ⟨hn1, hn3, hn4⟩ ⟨Bx, hBx, hX, rfl⟩ hlen
    have hok : okS b j = true := by
      cases hq : okS b j with
      | true => rfl
      | false => rw [gs_length] at hlen; unfold gNn grpsN at hlen; rw [hq] at hlen; simp at hlen
    have hlr : pre.length < 64 := by rw [gs_length] at hlen; have := (gNn_cast b j).2; omega
    have hcr := capL_rng hok pre
    obtain ⟨d, hd, f1, f2, f3, f4, f5, f6, f7, f8, f9⟩ := okS_facts hok
    obtain ⟨g1, g2, g3, g4, g5, g6⟩ := roomG_rng (b := b) j x (by omega) (by omega) (by omega) (by omega) (by omega) (by omega)
    have HS : Hid (capL b j (pre ++ [x]) = capL b j pre + (128 * ((x.1 : Nat) : Int) + gLen b ((x.1 : Nat) : Int) - gData b j ((x.1 : Nat) : Int))) := capL_snoc b j pre x
    unfold roomG at g1 g2
    have hx64 := x.2
    generalize capL b j pre = cc at *
    unfold grpA at hX ⊢
    generalize gLen b ((x.1 : Nat) : Int) = ll at *
    generalize gMap b ((x.1 : Nat) : Int) = m at *
    generalize gData b j ((x.1 : Nat) : Int) = dd at *
    obtain ⟨gg, HGG⟩ : ∃ gg : Int, Hid (((x.1 : Nat) : Int) = gg) := ⟨_, rfl⟩
    have hgg1 : 0 ≤ gg := by have := HGG.out; omega
    have hgg2 : gg < 64 := by have := HGG.out; omega
    rw [HGG.out] at HS hX g1 g2 ⊢
    obtain ⟨rr, HRR⟩ : ∃ rr : Int, Hid (128 * gg + ll - dd = rr) := ⟨_, rfl⟩
    rw [HRR.out] at HS g1 g2
    have hwr1 : IntKind.i64.wrap (cc + (128 * gg + ll - dd)) = cc + rr := by rw [HRR.out]; exact wrapB _ (by omega) (by omega)
    replace hX : Blk W Bx 30 [.int .i64 (128 * gg), .int .i64 ll, .int .i64 m, .int .i64 (m + 1), .int .i64 (m + 2), .int .i64 dd] := hX
    have hxl := hX.lt
    have hnl := hn1.lt
    clear hcr hlen hok hr hd
    gi_wp2
    refine wpIn_region_held_round (S := fun X => Blk X Bx 30 [.int .i64 (128 * gg), .int .i64 ll, .int .i64 m, .int .i64 (m + 1), .int .i64 (m + 2), .int .i64 dd]) (by kernel_rfl) (by kernel_rfl) hX.drew (fun hHeld => ?_)
    refine wpAnyH_take (i := 1) (v := ?_) rfl (by kernel_rfl) (by kernel_rfl) (by kernel_rfl) (fun _ _ _ h => h) (Or.inl ⟨by kernel_rfl, ?_⟩) hHeld ?_
    rotate_left
    · intro w' hSw; try dsimp only at hSw
      have c0 := hSw.cell' (i := 0) rfl
      have c1 := hSw.cell' (i := 1) rfl
      have c2 := hSw.cell' (i := 2) rfl
      have c3 := hSw.cell' (i := 3) rfl
      have c4 := hSw.cell' (i := 4) rfl
      have c5 := hSw.cell' (i := 5) rfl
      go_simp; try (with_reducible rfl)
    try simp only [Act.put, List.getElem_toArray, List.getElem_cons_succ, List.getElem_cons_zero, List.setIfInBounds_toArray, List.set_cons_zero, List.set_cons_succ]
    refine wpAnyH_ready (rs := [0, 2]) (by kernel_rfl) (by simp) ?_
    refine AllReadyH.cons rfl (fun K hK => ?_) ?_
    · have u0 := hn1.drew.cell' (i := 0) rfl
      go_simp
      refine hK.out _ _ hHeld (fun hHeld => ?_)
      clear hK K
      try simp only [Act.put, List.getElem_toArray, List.getElem_cons_succ, List.getElem_cons_zero, List.setIfInBounds_toArray, List.set_cons_zero, List.set_cons_succ]
      refine wpAnyH_ready (rs := [2]) (by kernel_rfl) (by simp) ?_
      refine AllReadyH.cons rfl (fun K hK => ?_) AllReadyH.nil
      go_simp
      refine (room_any _ _ _ _ _ _ _ (by omega) (by omega) (by omega)).mono ?_
      rintro e w2 ⟨rfl, hb2⟩
      have k1 := hn1.kept (((Below.refl _ _).drew).trans hb2)
      have k2 := hX.kept (((Below.refl _ _).drew).trans hb2)
      have hB2 : Below W.heap.size W w2 := ((Below.refl _ _).drew).trans hb2
      refine hK.out _ _ k2 (fun hHeld => ?_)
      clear hK K
      try simp only [Act.put, List.getElem_toArray, List.getElem_cons_succ, List.getElem_cons_zero, List.setIfInBounds_toArray, List.set_cons_zero, List.set_cons_succ]
      refine wpAnyH_take (i := 3) (v := ?_) rfl (by kernel_rfl) (by kernel_rfl) (by kernel_rfl) (fun _ _ _ h => h) (Or.inl ⟨by kernel_rfl, ?_⟩) hHeld ?_
      rotate_left
      · intro w' hSw; try dsimp only at hSw
        go_simp; try (with_reducible rfl)
      try simp only [Act.put, List.getElem_toArray, List.getElem_cons_succ, List.getElem_cons_zero, List.setIfInBounds_toArray, List.set_cons_zero, List.set_cons_succ]
      refine wpAnyH_ready (rs := [4]) (by kernel_rfl) (by simp) ?_
      refine AllReadyH.cons rfl (fun K hK => ?_) AllReadyH.nil
      try rw [hwr1]
      refine wp_store_cell 3 (.tmp 3) (.tmp 13) rfl _ 0 (.int .i64 (cc + rr)) rfl rfl k1 (by simp) size_int rfl ?_
      intro w5 b5 t5
      have k5 := k2.turned t5 (by omega)
      refine hK.out _ _ k5 (fun hHeld => ?_)
      clear hK K
      try simp only [Act.put, List.getElem_toArray, List.getElem_cons_succ, List.getElem_cons_zero, List.setIfInBounds_toArray, List.set_cons_zero, List.set_cons_succ]
      refine wpAnyH_done (by kernel_rfl) ?_ _
      refine NoBad.normal ?_
      gi_wp2
      exact ⟨((KeepsOthers.of_below hB2).trans (KeepsOthers.of_turned t5 k1)).from _, (KpG.below hB2 (by omega)).trans (KpG.turned t5 (by omega)), by rw [HS.out]; exact b5, t5.below (bt hn3 hB2) (by omega), by rw [t5.size]; have := hB2.size; omega⟩
    refine AllReadyH.cons rfl (fun K hK => ?_) AllReadyH.nil
    go_simp
    refine (room_any _ _ _ _ _ _ _ (by omega) (by omega) (by omega)).mono ?_
    rintro e w2 ⟨rfl, hb2⟩
    have k1 := hn1.kept (((Below.refl _ _).drew).trans hb2)
    have k2 := hX.kept (((Below.refl _ _).drew).trans hb2)
    have hB2 : Below W.heap.size W w2 := ((Below.refl _ _).drew).trans hb2
    refine hK.out _ _ k2 (fun hHeld => ?_)
    clear hK K
    try simp only [Act.put, List.getElem_toArray, List.getElem_cons_succ, List.getElem_cons_zero, List.setIfInBounds_toArray, List.set_cons_zero, List.set_cons_succ]
    refine wpAnyH_ready (rs := [0]) (by kernel_rfl) (by simp) ?_
    refine AllReadyH.cons rfl (fun K hK => ?_) AllReadyH.nil
    have u0 := k1.cell' (i := 0) rfl
    go_simp
    refine hK.out _ _ k2 (fun hHeld => ?_)
    clear hK K
    try simp only [Act.put, List.getElem_toArray, List.getElem_cons_succ, List.getElem_cons_zero, List.setIfInBounds_toArray, List.set_cons_zero, List.set_cons_succ]
    refine wpAnyH_take (i := 3) (v := ?_) rfl (by kernel_rfl) (by kernel_rfl) (by kernel_rfl) (fun _ _ _ h => h) (Or.inl ⟨by kernel_rfl, ?_⟩) hHeld ?_
    rotate_left
    · intro w' hSw; try dsimp only at hSw
      go_simp; try (with_reducible rfl)
    try simp only [Act.put, List.getElem_toArray, List.getElem_cons_succ, List.getElem_cons_zero, List.setIfInBounds_toArray, List.set_cons_zero, List.set_cons_succ]
    refine wpAnyH_ready (rs := [4]) (by kernel_rfl) (by simp) ?_
    refine AllReadyH.cons rfl (fun K hK => ?_) AllReadyH.nil
    try rw [hwr1]
    refine wp_store_cell 3 (.tmp 3) (.tmp 13) rfl _ 0 (.int .i64 (cc + rr)) rfl rfl k1 (by simp) size_int rfl ?_
    intro w5 b5 t5
    have k5 := k2.turned t5 (by omega)
    refine hK.out _ _ k5 (fun hHeld => ?_)
    clear hK K
    try simp only [Act.put, List.getElem_toArray, List.getElem_cons_succ, List.getElem_cons_zero, List.setIfInBounds_toArray, List.set_cons_zero, List.set_cons_succ]
    refine wpAnyH_done (by kernel_rfl) ?_ _
    refine NoBad.normal ?_
    gi_wp2
    exact ⟨((KeepsOthers.of_below hB2).trans (KeepsOthers.of_turned t5 k1)).from _, (KpG.below hB2 (by omega)).trans (KpG.turned t5 (by omega)), by rw [HS.out]; exact b5, t5.below (bt hn3 hB2) (by omega), by rw [t5.size]; have := hB2.size; omega⟩
theorem cap_any (b j : Int) (w : World) : Calls Try.prog 30 #[.agg #[.int .i64 b, .int .i64 j]] w fun e w' => e = .returned (.int .i64 (capN b j)) ∧ Below w.heap.size w w' :=
  callsIn_wide.1 (cap_in 5 (by omega) b j w)
end Go.Proofs.Ytbimcdaplnmjdaa
