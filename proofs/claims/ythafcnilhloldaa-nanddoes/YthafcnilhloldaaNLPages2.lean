/-
  What the law's pages answers: the walk.
-/
import Derived.Test.YthafcnilhloldaaNLPages
namespace Go.Proofs.Ythafcnilhloldaa
open Go.RowKit Go.Shelf
attribute [local go_sem] Oper.semAt_some
theorem boxed_of {W W' : World} {B : Nat} {t : TypeId} {v : Value} (h : Boxed W B t v) (e : W'.heap[B]? = W.heap[B]?) : Boxed W' B t v := e.trans h
theorem blk_of {W W' : World} {B : Nat} {t : TypeId} {v : List Value} (h : Blk W B t v) (e : W'.heap[B]? = W.heap[B]?) : Blk W' B t v := e.trans h
theorem owns_le {w : World} {B C n : Nat} {e : TypeId} {z : Nat} {v : Value} {xs : List Value} (hB : C ≤ B) (h : w.ownsRow B e z v n xs) : w.ownsRow C e z v n xs := by
  refine ⟨h.1, ?_⟩
  rcases h.2 with h' | ⟨g, cap, cur, h1, h2, h3⟩
  · exact .inl h'
  · exact .inr ⟨g, cap, cur, h1, Nat.le_trans hB h2, h3⟩
set_option linter.unusedSimpArgs false in
set_option maxRecDepth 100000 in
set_option maxHeartbeats 4000000 in
theorem lpages_in (n : Nat) (hn : 4 ≤ n) (Bs : Nat) (v : Value) (ps : List PageT) (w : World) (hBs : w.cell? ⟨Bs, 0, none⟩ = some v) (hp : PagesIn w v (ps.map (·.1))) (hl : ps.length ≤ 32) :
    CallsIn Fence.wide n Try.prog 22 #[.func (.func 56) #[] #[.pointer (some ⟨Bs, 0, none⟩)], .int .i64 99] w fun e w' => ∃ vn vl, e = .returned (.tuple #[vn, vl]) ∧ w'.ownsRow w.heap.size 3 1 vn ps.length (intsOf (upto ps ps.length)) ∧ w'.ownsRow w.heap.size 46 288 vl ps.length (vals (ps.map (·.1)).flatten) ∧ Below w.heap.size w w' := by
  obtain ⟨i0, hi, hz0, hz1, hz2⟩ := info_parts infoPage
  obtain ⟨j0, gi, gz0, gz1, gz2⟩ := info_parts infoInt
  have hz := zeroPage
  have h1 : 1 ≤ n := by omega
  have hlt : Bs < w.heap.size := block_lt_of_cell hBs
  have hfn := fun W a b => func_nil W (.func 56) a b
  refine callsIn_of_wp_marks Try.func22 rfl trivial ?_ rfl
  simp only [Try.ntmps22, List.size_toArray, List.length_cons, List.length_nil, Nat.reduceAdd, Nat.reduceSub, Array.replicate_succ, Array.replicate_zero, List.push_toArray, List.append_toArray, List.nil_append, List.cons_append]
  gi_wp2
  have hbel : Below w.heap.size w (((w.alloc (.cells #[.int .i64 99] 3)).alloc (.cells #[.slice none 0 0] 24)).alloc (.cells #[.slice none 0 0] 58)) := bt (bt (below_alloc w _) (below_alloc _ _)) (below_alloc _ _)
  have hx3 := ((Boxed.new w 3 (.int .i64 99)).alloc (.cells #[.slice none 0 0] 24)).alloc (.cells #[.slice none 0 0] 58)
  have hx6 := (Boxed.new (w.alloc (.cells #[.int .i64 99] 3)) 24 (.slice none 0 0)).alloc (.cells #[.slice none 0 0] 58)
  have hx7 := Boxed.new ((w.alloc (.cells #[.int .i64 99] 3)).alloc (.cells #[.slice none 0 0] 24)) 58 (.slice none 0 0)
  have hsz : (((w.alloc (.cells #[.int .i64 99] 3)).alloc (.cells #[.slice none 0 0] 24)).alloc (.cells #[.slice none 0 0] 58)).heap.size = w.heap.size + 3 := by simp
  simp only [World.size_alloc] at hx6 hx7
  have hBs' := (hbel.cell (p := ⟨Bs, 0, none⟩) hlt).trans hBs
  have hlow : PagesLow w.heap.size (((w.alloc (.cells #[.int .i64 99] 3)).alloc (.cells #[.slice none 0 0] 24)).alloc (.cells #[.slice none 0 0] 58)) v ps := ⟨hp.below hbel, fun k hk => hp.lt hk⟩
  generalize ((w.alloc (.cells #[.int .i64 99] 3)).alloc (.cells #[.slice none 0 0] 24)).alloc (.cells #[.slice none 0 0] 58) = W0 at *
  refine wpIn_rangeFunc_ownH rfl h1 (gf := 56) (lb := #[.pointer (some ⟨Bs, 0, none⟩)]) rfl trivial (enters_of Try.func56 (by kernel_rfl) rfl)
    (all_stops Fence.wide (n - 1) trivial rfl (by omega) Bs w.heap.size v ps W0 (by omega) (by omega) hBs' hlow (by omega)) belowK_t (belowK_b (by omega)) (Below.refl _ _) (fun _ => rfl)
    (fun pre W => (∃ vn, Boxed W (w.heap.size + 1) 24 vn ∧ W.ownsRow (w.heap.size + 1) 3 1 vn pre.length (intsOf pre) ∧ True) ∧ (∃ vl, Boxed W (w.heap.size + 1 + 1) 58 vl ∧ W.ownsRow w.heap.size 46 288 vl pre.length (vals (flatOf pre)) ∧ True) ∧ Boxed W w.heap.size 3 (.int .i64 99) ∧ Below w.heap.size w W)
    (fun _ _ _ => False)
    (OwnFrom.and (Own.from (holdsRow_own (w.heap.size + 1) (w.heap.size + 1) 24 3 1 (fun pre : List (Nat × PageT) => pre.length) (fun pre => intsOf pre) (fun _ _ => True)) _)
      (OwnFrom.and (Own.from (holdsRow_own w.heap.size (w.heap.size + 1 + 1) 58 46 288 (fun pre : List (Nat × PageT) => pre.length) (fun pre => vals (flatOf pre)) (fun _ _ => True)) _)
        (OwnFrom.and (Own.from (boxed_own w.heap.size 3 (fun _ : List (Nat × PageT) => Value.int .i64 99)) _) (ownFrom_below (Nat.le_refl _) (by omega)))))
    (fun _ _ _ _ _ hs _ _ => hs)
    ⟨⟨_, hx6, World.ownsRow_nil _ _ _ _, trivial⟩, ⟨_, hx7, World.ownsRow_nil _ _ _ _, trivial⟩, hx3, hbel⟩
    (fun x a' W => ∃ Bx, w.heap.size + 2 < Bx ∧ Blk W Bx 46 (vals x.2.1) ∧ a' = { tmps := #[.func (.func 56) #[] #[.pointer (some ⟨Bs, 0, none⟩)], .int .i64 99, undef, .pointer (some ⟨w.heap.size, 0, none⟩), .slice none 0 0, .slice none 0 0, .pointer (some ⟨w.heap.size + 1, 0, none⟩), .pointer (some ⟨w.heap.size + 1 + 1, 0, none⟩), .int .i64 (x.1 : Int), .pointer (some ⟨Bx, 0, none⟩), .func (.func 56) #[] #[.pointer (some ⟨Bs, 0, none⟩)], .bool false, .func (.func 56) #[] #[.pointer (some ⟨Bs, 0, none⟩)], .int .i64 (x.1 : Int), .agg (vals x.2.1).toArray, undef, undef, undef, undef, undef, undef, undef, undef, undef, undef, undef, undef, undef, undef], defers := [] })
    (fun x a' s X Y row ⟨Bx, h1, h2, h3⟩ hg hr => ⟨Bx, h1, (blk_own (β := Unit) Bx 46 (fun _ => vals x.2.1)).from w.heap.size () X Y row h2 hg (fun r e => ⟨by have := (hr r e).1; omega, (hr r e).2⟩), h3⟩)
    ?assign ?body ?done ?stop
  case assign =>
    rintro l pre x W K ⟨⟨vn, hn6, hr6, _⟩, ⟨vl, hn7, hr7, _⟩, hn3, hB⟩ hK
    dsimp only [encP]
    gi_wp2_with (refine wpListIn_store_new rfl 46 (.tmp 9) (.tmp 14) rfl (vals (fillP 0)) (vals x.2.1) rfl rfl (sizeP x.2.2.1) (by rw [vals_length, vals_length, x.2.2.1, fillP_length]) (vals_one _) ?_)
    exact hK _ _ ((KeepsOthers.alloc _ _).from _) ((Below.refl _ W).alloc hB.size _) ⟨⟨vn, hn6.alloc _, hr6.alloc _, trivial⟩, ⟨vl, hn7.alloc _, hr7.alloc _, trivial⟩, hn3.alloc _, hB.alloc hB.size _⟩ ⟨W.heap.size, hn7.lt, Blk.new _ _ _, rfl⟩
  case body =>
    rintro l pre x a' W hl2 ⟨r, hr⟩ ⟨⟨vn, hn6, hr6, _⟩, ⟨vl, hn7, hr7, _⟩, hn3, hB⟩ ⟨Bx, hBx, hX, rfl⟩ hlen
    have hk : pre.length < 32 := by omega
    obtain ⟨k, hkk⟩ : ∃ k, pre.length = k := ⟨_, rfl⟩
    have HK : Hid (pre.length = k) := hkk
    rw [hkk] at hr6 hr7 hk
    clear hkk hlen
    obtain ⟨pn, cn, rfl⟩ := owns_slice hr6
    obtain ⟨pl, cl, rfl⟩ := owns_slice hr7
    have c6 := hn6.cell
    have c7 := hn7.cell
    have c3 := hn3.cell
    have hxP := x.2.2
    have l6 := hn6.lt
    have l7 := hn7.lt
    have lX := hX.lt
    have HXL : Hid (x.2.1.length = 288) := hxP.1
    gi_wp2_with (first
      | (guard_target = wpListIn _ _ _ _ _ (Oper.mk _ (Op.load 46 (Operand.tmp 9)) _ _ _ _ :: _) _ _; refine wpListIn_load_mid rfl 46 (.tmp 9) rfl Bx 0 rfl (vals x.2.1) _ (hX2.range 0 288 _ (by rw [List.drop_zero, List.take_of_length_le (by rw [vals_length, HXL.out]; exact Nat.le_refl _)])) Try.underlying46 rfl (sizeP HXL.out) ?_)
      | (guard_target = wpListIn _ _ _ _ _ (Oper.mk _ (Op.buildSlice 58 1 _) _ _ _ _ :: _) _ _; refine wpListIn_buildPage rfl (.tmp 24) rfl x.2.1 rfl HXL.out ?_)
      | (gi_at_builtin; (refine wpListIn_append_own _ rfl (.tmp 19) (.tmp 21) 24 rfl (w.heap.size + 1) 3 j0 (.int .i64 0) 1 8 Try.underlying24 gi gz0 gz1 gz2 rfl (by decide) (.slice pn k cn) k (intsOf pre) rfl (hr6.alloc _) ⟨W.heap.size, 0, none⟩ 1 1 [.int .i64 (x.1 : Int)] rfl rfl (newRange [.int .i64 (x.1 : Int)]) (by intro u hu; simp at hu; subst hu; rfl) (by unfold maxLen; omega) (by omega) (by have := hB.size; simp; omega) ?_); (intro v1 w1 hown1 hg1 _; obtain ⟨p1, c1, rfl⟩ := owns_slice hown1; have A := put1 (by decide) hn6 hr6 (Nat.le_refl _) hg1 hown1; have q1 := A.box1.cell; have q2 := A.box1.frozen; have q3 := (boxed_of hn7 (A.other1 _ l7 (hn7.not_row (by decide) hr6))).cell; have hX2 := blk_of hX (A.other Bx lX (by omega) (hX.not_row (by decide) hr6)); have hn7' := boxed_of hn7 (A.other _ l7 (by omega) (hn7.not_row (by decide) hr6)); have hr7' : (w1.setCell ⟨w.heap.size + 1, 0, none⟩ (.slice p1 (k + 1) c1)).ownsRow w.heap.size 46 288 (.slice pl k cl) k (vals (flatOf pre)) := ownsRow_same hr7 (fun g hg => A.other g (hr7.lt g hg).2 (fun e => hn6.not_row (e := 46) (by decide) hr7 (by rw [hg, e])) (fun e => (not_row_gen (e := 3) (by decide) hr6 hr7).elim (fun h => by rw [h] at hg; cases hg) (fun h => h (by rw [hg, e])))); have sz1 : (w1.setCell ⟨w.heap.size + 1, 0, none⟩ (.slice p1 (k + 1) c1)).heap.size = w1.heap.size := World.size_setCell _ _ _; have hs1 : W.heap.size ≤ w1.heap.size := by { have := A.below.size; rw [World.size_setCell] at this; exact this }))
      | (gi_at_builtin; refine wpListIn_append_own _ rfl (.tmp 23) (.tmp 25) 58 rfl w.heap.size 46 i0 _ 288 288 Try.underlying58 hi hz0 hz1 hz2 rfl (by decide) (.slice pl k cl) k (vals (flatOf pre)) rfl (hr7'.alloc _) _ 1 1 (vals x.2.1) rfl (by rw [vals_length, HXL.out]) (by have := newRange (w := w1.setCell ⟨w.heap.size + 1, 0, none⟩ (.slice p1 (k + 1) c1)) (t := 46) (vals x.2.1); first | exact this | (rw [World.size_setCell] at this; exact this)) (vals_one _) (by unfold maxLen; omega) (by omega) (by have := hB.size; simp; omega) ?_; intro v2 w4 hown2 hg2 _; obtain ⟨p2, c2, rfl⟩ := owns_slice hown2; have D := put1 (by decide) hn7' hr7' (by omega) hg2 hown2; have q4 := D.box1.cell; have q5 := D.box1.frozen))
    have kl : (pre ++ [x]).length = k + 1 := by rw [List.length_append, List.length_singleton, HK.out]
    have z6 := A.box.lt
    have z7 := hn7'.lt
    have n6 := boxed_of A.box (D.other _ z6 (by omega) (A.box.not_row (by decide) hr7'))
    have r6 := ownsRow_same A.row (fun g hg => D.other g (A.row.lt g hg).2 (fun e => hn7'.not_row (e := 3) (by decide) A.row (by rw [hg, e])) (fun e => (not_row_gen (e := 46) (by decide) hr7' A.row).elim (fun h => by rw [h] at hg; cases hg) (fun h => h (by rw [hg, e]))))
    have n3 := boxed_of hn3 (A.other _ hn3.lt (by omega) (fun e => by have := (hr6.lt _ e.symm).1; omega))
    have n3' := boxed_of n3 (D.other _ n3.lt (by omega) (n3.not_row (by decide) hr7'))
    have r7 := D.row
    rw [← vals_append, ← flatOf_snoc] at r7
    rw [← intsOf_snoc] at r6
    refine ⟨((A.keeps.trans D.keeps).from _), (A.below.mono (Nat.le_succ _)).trans D.below, ⟨_, n6, ?_, trivial⟩, ⟨_, D.box, ?_, trivial⟩, n3', (hB.trans (A.below.mono (Nat.le_succ _))).trans D.below⟩
    · rw [kl]; exact r6
    · rw [kl]; exact r7
  case done =>
    rintro D ys W hD rfl ⟨⟨vn, hn6, hr6, _⟩, ⟨vl, hn7, hr7, _⟩, hn3, hB⟩ hK
    rw [upto_length (Nat.le_refl _)] at hr6 hr7
    rw [flatOf_upto] at hr7
    obtain ⟨pn, cn, rfl⟩ := owns_slice hr6
    obtain ⟨pl, cl, rfl⟩ := owns_slice hr7
    have hc6 := hn6.cell
    have hc7 := hn7.cell
    gi_wp2
    refine wpIn_region_any (by kernel_rfl) ?_
    change wpAnyIn _ _ _ _ _ _ _ _ _ (World.drew _)
    refine wpAnyIn_ready (rs := [0, 1]) (by kernel_rfl) (by simp) ?_
    refine AllReadyIn.cons rfl (fun K hK => ?_) ?_
    · go_simp
      refine hK _ _ ?_
      clear hK K
      try simp only [Act.put, List.getElem_toArray, List.getElem_cons_succ, List.getElem_cons_zero, List.setIfInBounds_toArray, List.set_cons_zero, List.set_cons_succ]
      refine wpAnyIn_ready (rs := [1, 2]) (by kernel_rfl) (by simp) ?_
      refine AllReadyIn.cons rfl (fun K hK => ?_) ?_
      · go_simp
        refine hK _ _ ?_
        clear hK K
        try simp only [Act.put, List.getElem_toArray, List.getElem_cons_succ, List.getElem_cons_zero, List.setIfInBounds_toArray, List.set_cons_zero, List.set_cons_succ]
        refine wpAnyIn_ready (rs := [2]) (by kernel_rfl) (by simp) ?_
        refine AllReadyIn.cons rfl (fun K hK => ?_) AllReadyIn.nil
        go_simp
        refine hK _ _ ?_
        clear hK K
        try simp only [Act.put, List.getElem_toArray, List.getElem_cons_succ, List.getElem_cons_zero, List.setIfInBounds_toArray, List.set_cons_zero, List.set_cons_succ]
        refine wpAnyIn_ready (rs := [3]) (by kernel_rfl) (by simp) ?_
        refine AllReadyIn.cons rfl (fun K hK => ?_) AllReadyIn.nil
        go_simp
        refine hK _ _ ?_
        clear hK K
        try simp only [Act.put, List.getElem_toArray, List.getElem_cons_succ, List.getElem_cons_zero, List.setIfInBounds_toArray, List.set_cons_zero, List.set_cons_succ]
        refine wpAnyIn_done (by kernel_rfl) ?_ _
        gi_wp2
        refine ⟨by simp, .inl ⟨_, _, rfl, run_takeDeferred hK, ?_⟩⟩
        have hbD : Below w.heap.size W.drew (W.drew.putObj D (.deferred none)) := belowK_b (w := w) (Nat.le_refl _) W.drew D _ _ (by omega) hK rfl rfl
        exact ⟨_, results_tmp2 Try.results22 _ _ _, .slice pn ps.length cn, .slice pl ps.length cl, rfl, owns_le (Nat.le_succ _) (ownsRow_putObj hr6.drew (.deferred none) hK rfl), ownsRow_putObj hr7.drew (.deferred none) hK rfl, hB.drew.trans hbD⟩
      refine AllReadyIn.cons rfl (fun K hK => ?_) AllReadyIn.nil
      go_simp
      refine hK _ _ ?_
      clear hK K
      try simp only [Act.put, List.getElem_toArray, List.getElem_cons_succ, List.getElem_cons_zero, List.setIfInBounds_toArray, List.set_cons_zero, List.set_cons_succ]
      refine wpAnyIn_ready (rs := [1]) (by kernel_rfl) (by simp) ?_
      refine AllReadyIn.cons rfl (fun K hK => ?_) AllReadyIn.nil
      go_simp
      refine hK _ _ ?_
      clear hK K
      try simp only [Act.put, List.getElem_toArray, List.getElem_cons_succ, List.getElem_cons_zero, List.setIfInBounds_toArray, List.set_cons_zero, List.set_cons_succ]
      refine wpAnyIn_ready (rs := [3]) (by kernel_rfl) (by simp) ?_
      refine AllReadyIn.cons rfl (fun K hK => ?_) AllReadyIn.nil
      go_simp
      refine hK _ _ ?_
      clear hK K
      try simp only [Act.put, List.getElem_toArray, List.getElem_cons_succ, List.getElem_cons_zero, List.setIfInBounds_toArray, List.set_cons_zero, List.set_cons_succ]
      refine wpAnyIn_done (by kernel_rfl) ?_ _
      gi_wp2
      refine ⟨by simp, .inl ⟨_, _, rfl, run_takeDeferred hK, ?_⟩⟩
      have hbD : Below w.heap.size W.drew (W.drew.putObj D (.deferred none)) := belowK_b (w := w) (Nat.le_refl _) W.drew D _ _ (by omega) hK rfl rfl
      exact ⟨_, results_tmp2 Try.results22 _ _ _, .slice pn ps.length cn, .slice pl ps.length cl, rfl, owns_le (Nat.le_succ _) (ownsRow_putObj hr6.drew (.deferred none) hK rfl), ownsRow_putObj hr7.drew (.deferred none) hK rfl, hB.drew.trans hbD⟩
    refine AllReadyIn.cons rfl (fun K hK => ?_) AllReadyIn.nil
    go_simp
    refine hK _ _ ?_
    clear hK K
    try simp only [Act.put, List.getElem_toArray, List.getElem_cons_succ, List.getElem_cons_zero, List.setIfInBounds_toArray, List.set_cons_zero, List.set_cons_succ]
    refine wpAnyIn_ready (rs := [0]) (by kernel_rfl) (by simp) ?_
    refine AllReadyIn.cons rfl (fun K hK => ?_) AllReadyIn.nil
    go_simp
    refine hK _ _ ?_
    clear hK K
    try simp only [Act.put, List.getElem_toArray, List.getElem_cons_succ, List.getElem_cons_zero, List.setIfInBounds_toArray, List.set_cons_zero, List.set_cons_succ]
    refine wpAnyIn_ready (rs := [2]) (by kernel_rfl) (by simp) ?_
    refine AllReadyIn.cons rfl (fun K hK => ?_) AllReadyIn.nil
    go_simp
    refine hK _ _ ?_
    clear hK K
    try simp only [Act.put, List.getElem_toArray, List.getElem_cons_succ, List.getElem_cons_zero, List.setIfInBounds_toArray, List.set_cons_zero, List.set_cons_succ]
    refine wpAnyIn_ready (rs := [3]) (by kernel_rfl) (by simp) ?_
    refine AllReadyIn.cons rfl (fun K hK => ?_) AllReadyIn.nil
    go_simp
    refine hK _ _ ?_
    clear hK K
    try simp only [Act.put, List.getElem_toArray, List.getElem_cons_succ, List.getElem_cons_zero, List.setIfInBounds_toArray, List.set_cons_zero, List.set_cons_succ]
    refine wpAnyIn_done (by kernel_rfl) ?_ _
    gi_wp2
    refine ⟨by simp, .inl ⟨_, _, rfl, run_takeDeferred hK, ?_⟩⟩
    have hbD : Below w.heap.size W.drew (W.drew.putObj D (.deferred none)) := belowK_b (w := w) (Nat.le_refl _) W.drew D _ _ (by omega) hK rfl rfl
    exact ⟨_, results_tmp2 Try.results22 _ _ _, .slice pn ps.length cn, .slice pl ps.length cl, rfl, owns_le (Nat.le_succ _) (ownsRow_putObj hr6.drew (.deferred none) hK rfl), ownsRow_putObj hr7.drew (.deferred none) hK rfl, hB.drew.trans hbD⟩
  case stop =>
    rintro D c pre W _ _ h _
    exact h.elim
theorem lpages_any (Bs : Nat) (v : Value) (ps : List PageT) (w : World) (hBs : w.cell? ⟨Bs, 0, none⟩ = some v) (hp : PagesIn w v (ps.map (·.1))) (hl : ps.length ≤ 32) :
    Calls Try.prog 22 #[.func (.func 56) #[] #[.pointer (some ⟨Bs, 0, none⟩)], .int .i64 99] w fun e w' => ∃ vn vl, e = .returned (.tuple #[vn, vl]) ∧ w'.ownsRow w.heap.size 3 1 vn ps.length (intsOf (upto ps ps.length)) ∧ w'.ownsRow w.heap.size 46 288 vl ps.length (vals (ps.map (·.1)).flatten) ∧ Below w.heap.size w w' :=
  (callsIn_wide (n := 4)).1 (lpages_in 4 (Nat.le_refl _) Bs v ps w hBs hp hl)
end Go.Proofs.Ythafcnilhloldaa
