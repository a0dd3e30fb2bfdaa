/-
  What put does: a page is laid behind a block's pages, erased ones between.
-/
import Derived.Test.YthafcnilhloldaaNBegin
import Derived.Great.BuildSlice
import Derived.Deep.LoopGhost
import Derived.Maps.AppendAt
namespace Go.Proofs.Ythafcnilhloldaa
open Go.RowKit
theorem fold_set : ∀ (xs : List Value) (k : Nat) (cs : List Value), k + xs.length ≤ cs.length →
    (xs.zipIdx k).foldl (fun (cs : Array Value) (p : Value × Nat) => cs.setIfInBounds (0 + p.2) p.1) cs.toArray = (cs.take k ++ xs ++ cs.drop (k + xs.length)).toArray
  | [], k, cs, h => by simp
  | x :: r, k, cs, h => by
    simp only [List.length_cons] at h
    rw [List.zipIdx_cons, List.foldl_cons]
    have e : cs.toArray.setIfInBounds (0 + k) x = (cs.set k x).toArray := by simp
    simp only [e]
    rw [fold_set r (k + 1) (cs.set k x) (by simp; omega)]
    congr 1
    have hk : k < cs.length := by omega
    rw [List.take_set, List.drop_set_of_lt (by omega), List.take_succ_eq_append_getElem hk, List.set_append_right _ _ (by rw [List.length_take]; exact Nat.min_le_left _ _)]
    simp [show min k cs.length = k from by omega, show k + 1 + r.length = k + (r.length + 1) from by omega]
theorem fill_one (z xs : List Value) (n : Nat) (hz : z.length = n) (hx : xs.length = n) : Instr.fill (fun i => some (i * n, n)) z.toArray [(0, .agg xs.toArray)] = some xs.toArray := by
  have e := fold_set xs 0 z (by omega)
  rw [List.take_zero, List.nil_append, List.drop_of_length_le (by omega), List.append_nil] at e
  simp only [Instr.fill, Value.cells, List.size_toArray, Nat.zero_mul]
  rw [if_neg (by simp; omega)]
  rw [← Array.foldl_toList, Array.toList_zipIdx]
  simpa using e
theorem buildPage (xs : List Nat) (hx : xs.length = 288) (w : World) : (Instr.buildSlice 58 1 #[(0, .agg (vals xs).toArray)]).run Try.prog w = .ok (.slice (some ⟨w.heap.size, 0, none⟩) 1 1) (w.alloc (.cells (vals xs).toArray 46)) := by
  obtain ⟨i0, hi, hz0, hz1, hz2⟩ := info_parts infoPage
  refine run_buildSlice w 58 46 1 _ _ i0 _ Try.underlying58 hi hz0 (by rw [hz1]; decide) (by rw [hz1]; decide) ?_
  rw [hz1]
  have hm : ((Array.range (1 * 288)).map ((Value.agg (vals (fillP 0)).toArray).cells[· % (Value.agg (vals (fillP 0)).toArray).cells.size]!)) = ((Array.range (1 * 288)).map ((Value.agg (vals (fillP 0)).toArray).cells[· % (Value.agg (vals (fillP 0)).toArray).cells.size]!)).toList.toArray := Array.toArray_toList.symm
  rw [hm]
  exact fill_one _ _ 288 (by simp) (by rw [vals_length, hx])
/-- The operation that lays a slice of one page. -/
theorem wp_buildPage {o : Oper} {a : Act} {w : World} {K : Act → World → Prop} {Q : Exit → Act → World → Prop} (x : Operand) (ho : o.op = .buildSlice 58 1 #[(0, x)]) (xs : List Nat) (hx : a.eval x = .agg (vals xs).toArray) (hl : xs.length = 288)
    (h : K (a.put o.dst (.slice (some ⟨w.heap.size, 0, none⟩) 1 1)) (w.alloc (.cells (vals xs).toArray 46))) : o.wp Try.prog a w K Q := by
  unfold Oper.wp execOp
  simp only [ho, Sem.run_bind, List.map_toArray, List.map_cons, List.map_nil, hx, buildPage xs hl w, Result.andThen_ok]
  exact h
theorem wpList_buildPage {ops : Array Oper} {rest : List Oper} {o : Oper} {a : Act} {w : World} {Q : Exit → Act → World → Prop} (hg : o.guard = none) (x : Operand) (ho : o.op = .buildSlice 58 1 #[(0, x)]) (xs : List Nat) (hx : a.eval x = .agg (vals xs).toArray) (hl : xs.length = 288)
    (h : wpList Try.prog ops Q rest (a.put o.dst (.slice (some ⟨w.heap.size, 0, none⟩) 1 1)) (w.alloc (.cells (vals xs).toArray 46))) : wpList Try.prog ops Q (o :: rest) a w :=
  wpList_plain hg fun _ hK => wp_buildPage x ho xs hx hl (hK _ _ h)
theorem owns_slice {w : World} {B n : Nat} {e : TypeId} {z : Nat} {v : Value} {xs : List Value} (h : w.ownsRow B e z v n xs) : ∃ p c, v = .slice p n c := by
  rcases h.2 with ⟨rfl, rfl⟩ | ⟨g, cap, cur, rfl, _⟩
  · exact ⟨none, 0, rfl⟩
  · exact ⟨_, cap, rfl⟩
theorem newRange {w : World} {t : TypeId} (xs : List Value) : ∀ j u, xs[j]? = some u → (w.alloc (.cells xs.toArray t)).cell? ((⟨w.heap.size, 0, none⟩ : Addr).add j) = some u := by
  intro j u hu
  rw [addr_add, Nat.zero_add]
  exact (Blk.new w t xs).cell' hu
/-- A block's pages with one more, at place n; erased ones between. -/
def putP (ps : List (List Nat)) (n : Nat) (x : List Nat) : List (List Nat) := ps ++ List.replicate (n - ps.length) blankP ++ [x]
theorem flat_snoc (ps : List (List Nat)) (x : List Nat) : vals (ps ++ [x]).flatten = vals ps.flatten ++ vals x := by simp [vals]
theorem PagesIn.of_owns {w : World} {B : Nat} {v : Value} {ps : List (List Nat)} {x : List Nat} {n : Nat} (h : w.ownsRow B 46 288 v n (vals ps.flatten ++ vals x)) (hn : n = ps.length + 1) (hp : ∀ p ∈ ps, IsP p) (hx : IsP x) : PagesIn w v (ps ++ [x]) := by
  subst hn
  refine ⟨⟨?_, ?_⟩, fun p hp' => ?_⟩
  · rw [flat_snoc]; simpa using h.1
  · rw [flat_snoc]
    rcases h.2 with h' | ⟨g, cap, cur, h1, _, h2⟩
    · simp at h'
    · exact .inr ⟨g, cap, cur, by simpa using h1, Nat.zero_le _, by simpa using h2⟩
  · rcases List.mem_append.1 hp' with h' | h'
    · exact hp p h'
    · rw [List.mem_singleton.1 h']; exact hx
theorem PagesIn.owns {w : World} {v : Value} {ps : List (List Nat)} (h : PagesIn w v ps) : w.ownsRow 0 46 288 v ps.length (vals ps.flatten) := h.row
/-- A page appended to a slice of pages: the operation. -/
theorem wp_appendPage {o : Oper} {a : Act} {w : World} {K : Act → World → Prop} {Q : Exit → Act → World → Prop} (s x : Operand) (ho : o.op = .call { callee := .builtin .append, args := #[s, x], argTypes := #[58, 58] }) (v : Value) (qs : List (List Nat)) (hs : a.eval s = v) (hp : PagesIn w v qs)
    (ad : Addr) (y : List Nat) (hx : a.eval x = .slice (some ad) 1 1) (hy : IsP y) (hnews : ∀ j u, (vals y)[j]? = some u → w.cell? (ad.add j) = some u) (hlen : qs.length < 1000000)
    (h : ∀ p1 c1 w', PagesIn w' (.slice p1 (qs.length + 1) c1) (qs ++ [y]) → w.grownBy w' v.ownBlock → ((Value.slice p1 (qs.length + 1) c1).ownBlock = v.ownBlock ∨ (Value.slice p1 (qs.length + 1) c1).ownBlock = some w.heap.size) → K (a.put o.dst (.slice p1 (qs.length + 1) c1)) w') : o.wp Try.prog a w K Q := by
  obtain ⟨i0, hi, hz0, hz1, hz2⟩ := info_parts infoPage
  obtain ⟨v', w', hr, h2, h3, _, h5⟩ := run_append_own_at (P := Try.prog) w 0 58 o.type 46 i0 _ 288 288 Try.underlying58 hi hz0 hz1 hz2 (by rw [Value.cells, List.size_toArray, vals_length, fillP_length]) (by decide) v qs.length (vals qs.flatten) hp.row ad 1 1 (vals y) (by rw [vals_length, hy.1]) hnews (vals_one _) (by unfold maxLen; omega) (by omega) (Nat.zero_le _)
  obtain ⟨p1, c1, rfl⟩ := owns_slice h2
  unfold Oper.wp execOp
  simp only [ho, resolve, invoke, builtin, Sem.run_bind, Sem.run_pure, Result.andThen_ok, List.map_toArray, List.map_cons, List.map_nil, hs, hx, hr]
  exact h p1 c1 w' (PagesIn.of_owns h2 rfl hp.each hy) h3 h5
theorem wpList_appendPage {ops : Array Oper} {rest : List Oper} {o : Oper} {a : Act} {w : World} {Q : Exit → Act → World → Prop} (hg : o.guard = none) (s x : Operand) (ho : o.op = .call { callee := .builtin .append, args := #[s, x], argTypes := #[58, 58] }) (v : Value) (qs : List (List Nat)) (hs : a.eval s = v) (hp : PagesIn w v qs)
    (ad : Addr) (y : List Nat) (hx : a.eval x = .slice (some ad) 1 1) (hy : IsP y) (hnews : ∀ j u, (vals y)[j]? = some u → w.cell? (ad.add j) = some u) (hlen : qs.length < 1000000)
    (h : ∀ p1 c1 w', PagesIn w' (.slice p1 (qs.length + 1) c1) (qs ++ [y]) → w.grownBy w' v.ownBlock → ((Value.slice p1 (qs.length + 1) c1).ownBlock = v.ownBlock ∨ (Value.slice p1 (qs.length + 1) c1).ownBlock = some w.heap.size) → wpList Try.prog ops Q rest (a.put o.dst (.slice p1 (qs.length + 1) c1)) w') : wpList Try.prog ops Q (o :: rest) a w :=
  wpList_plain hg fun _ hK => wp_appendPage s x ho v qs hs hp ad y hx hy hnews hlen fun p1 c1 w' h1 h2 h3 => hK _ _ (h p1 c1 w' h1 h2 h3)
/-- What stands in memory between two pages that are put. -/
structure PutR (w : World) (bb o : Nat) (BC : List Value) (v : Value) (x : List Nat) (wr : World) (v' : Value) (qs : List (List Nat)) : Prop where
  blk : Blk wr bb 78 (BC.set o v')
  pages : PagesIn wr v' qs
  box : Blk wr w.heap.size 46 (vals x)
  keep : Keep (fun k => k = bb ∨ v.ownBlock = some k) w wr
  ne : ∀ k, v'.ownBlock = some k → k ≠ bb ∧ k ≠ w.heap.size
  fr : ∀ k, v'.ownBlock = some k → v.ownBlock = some k ∨ w.heap.size ≤ k
theorem PutR.step {w : World} {bb o : Nat} {BC : List Value} {v : Value} {x : List Nat} {wr wa w1 : World} {v' v1 : Value} {qs : List (List Nat)} {y : List Nat} (h : PutR w bb o BC v x wr v' qs) (ha : Below wr.heap.size wr wa) (hg : wa.grownBy w1 v'.ownBlock)
    (hp : PagesIn w1 v1 (qs ++ [y])) (hat : v1.ownBlock = v'.ownBlock ∨ v1.ownBlock = some wa.heap.size) (hlt : bb < w.heap.size) : PutR w bb o BC v x (w1.setCell ⟨bb, o, none⟩ v1) v1 (qs ++ [y]) := by
  have hb1 := h.box.lt
  have hsz := ha.size
  have hne : ∀ k, v1.ownBlock = some k → k ≠ bb ∧ k ≠ w.heap.size := by
    intro k hk
    rcases hat with e | e
    · exact h.ne k (e ▸ hk)
    · rw [hk] at e; cases e; omega
  have hB := (h.blk.kept ha).grown hg (fun e => (h.ne _ e.symm).1 rfl)
  have hN := (h.box.kept ha).grown hg (fun e => (h.ne _ e.symm).2 rfl)
  refine ⟨?_, hp.same (fun k hk => heap_setCell_other _ _ _ _ (hne k hk).1), hN.setOther _ _ (by simp; omega), ?_, hne, ?_⟩
  · have := hB.set o v1
    rwa [List.set_set] at this
  · have h1 : Keep (fun k => k = bb ∨ v.ownBlock = some k) w w1 := (h.keep.fresh (Keep.of_below (S := fun _ => False) ha) (fun _ _ e => e)).trans (Keep.of_grown (S := fun k => v'.ownBlock = some k) hg (fun k e _ => e)) (fun j hj e => by
      rcases h.fr j e with e | e
      · exact .inr e
      · omega)
    exact h1.setCell _ _ (.inl rfl)
  · intro k hk
    rcases hat with e | e
    · exact h.fr k (e ▸ hk)
    · rw [hk] at e; cases e; omega
set_option linter.unusedSimpArgs false in
set_option maxRecDepth 100000 in
set_option maxHeartbeats 800000 in
theorem put_any (bb o n : Nat) (v : Value) (ps : List (List Nat)) (x : List Nat) (BC : List Value) (w : World) (hB : Blk w bb 78 BC) (hv : BC[o]? = some v) (hp : PagesIn w v ps) (hx : IsP x) (hn : ps.length ≤ n) (hn2 : n ≤ 32) (hne : ∀ k, v.ownBlock = some k → k ≠ bb) :
    Calls Try.prog 43 #[.pointer (some ⟨bb, o, none⟩), .int .i64 (n : Int), .agg (vals x).toArray] w fun e w' => (∃ u, e = .returned u) ∧ ∃ v', Blk w' bb 78 (BC.set o v') ∧ PagesIn w' v' (putP ps n x) ∧
      Keep (fun k => k = bb ∨ v.ownBlock = some k) w w' ∧ ∀ k, v'.ownBlock = some k → v.ownBlock = some k ∨ w.heap.size ≤ k := by
  have hN := Blk.new w 46 (vals x)
  have hb0 := below_alloc w (.cells (vals x).toArray 46)
  have ho : o < BC.length := (List.getElem?_eq_some_iff.1 hv).1
  have hlt := hB.lt
  go_enter Try.func43, Try.ntmps43
  go_wp2
  go_loopg [] (n - ps.length) (fun k wr => ∃ v' qs, PutR w bb o BC v x wr v' qs ∧ Hid (qs = ps ++ List.replicate (qs.length - ps.length) blankP) ∧ ps.length ≤ qs.length ∧ qs.length ≤ n ∧ k = n - qs.length)
  case atStart =>
    have e : BC.set o v = BC := by
      apply List.ext_getElem?; intro i; rw [List.getElem?_set]
      by_cases h : o = i
      · rw [if_pos h, if_pos ho, ← h, hv]
      · rw [if_neg h]
    exact ⟨v, ps, ⟨by rw [e]; exact hB.kept hb0, hp.below hb0, hN, Keep.of_below hb0, fun k hk => ⟨hne k hk, by have := hp.lt hk; omega⟩, fun k hk => .inl hk⟩, by show ps = _; simp, Nat.le_refl _, hn, rfl⟩
  case round =>
    obtain ⟨v', qs, hR, hq, h1, h2, rfl⟩ := hrel
    clear hN hb0 hB hp hv
    obtain ⟨q, cap, rfl, hcap⟩ := hR.pages.shape
    have hc := hR.blk.cell' (i := o) (v := .slice q qs.length cap) (by simp [ho])
    have hf := hR.blk.frozen o
    have hbl := hR.blk.lt
    by_cases hlt2 : qs.length < n
    · have hq2 : Hid (qs ++ [blankP] = ps ++ List.replicate ((qs ++ [blankP]).length - ps.length) blankP) := by
        have := hq.out
        show qs ++ [blankP] = _
        rw [List.length_append, List.length_singleton, show qs.length + 1 - ps.length = (qs.length - ps.length) + 1 from by omega, List.replicate_succ', ← List.append_assoc, ← this]
      go_wp2
      refine wp_region_noPanic ?_
      refine wp_region_held_drew (S := fun _ => True) (by kernel_rfl) trivial (fun hHeld => ?_)
      refine wpAnyH_take (i := 0) (v := ?_) rfl (by kernel_rfl) (by kernel_rfl) (by kernel_rfl) (fun _ _ _ h => h) (Or.inl ⟨by rfl, ?_⟩) hHeld ?_
      rotate_left
      · intro w hSw; go_simp; try (with_reducible rfl)
      try simp only [Act.put, List.setIfInBounds_toArray, List.set_cons_zero, List.set_cons_succ]
      refine wpAnyH_take (i := 1) (v := ?_) rfl (by kernel_rfl) (by kernel_rfl) (by kernel_rfl) (fun _ _ _ h => h) (Or.inl ⟨by rfl, ?_⟩) hHeld ?_
      rotate_left
      · intro w hSw; go_simp; try (with_reducible rfl)
      try simp only [Act.put, List.setIfInBounds_toArray, List.set_cons_zero, List.set_cons_succ]
      refine wpAnyH_take (i := 2) (v := ?_) rfl (by kernel_rfl) (by kernel_rfl) (by kernel_rfl) (fun _ _ _ h => h) (Or.inl ⟨by rfl, ?_⟩) hHeld ?_
      rotate_left
      · intro w hSw; go_simp; try (with_reducible rfl)
      try simp only [Act.put, List.setIfInBounds_toArray, List.set_cons_zero, List.set_cons_succ]
      refine wpAnyH_take (i := 3) (v := ?_) rfl (by kernel_rfl) (by kernel_rfl) (by kernel_rfl) (fun _ _ _ h => h) (Or.inl ⟨by rfl, ?_⟩) hHeld ?_
      rotate_left
      · intro w hSw; go_simp; try (with_reducible rfl)
      try simp only [Act.put, List.setIfInBounds_toArray, List.set_cons_zero, List.set_cons_succ]
      refine wpAnyH_ready (rs := [4, 5]) (by kernel_rfl) (by simp) ?_
      refine AllReadyH.cons rfl (fun K hK => ?_) ?_
      · go_simp
        refine hK.out _ _ trivial (fun hHeld => ?_)
        clear hK K
        try simp only [Act.put, List.setIfInBounds_toArray, List.set_cons_zero, List.set_cons_succ]
        refine wpAnyH_ready (rs := [5]) (by kernel_rfl) (by simp) ?_
        refine AllReadyH.cons rfl (fun K hK => ?_) AllReadyH.nil
        go_simp
        refine (blank_any _).mono ?_
        rintro e w2 ⟨rfl, hb2⟩
        have hc2 : w2.cell? ⟨bb, o, none⟩ = some (.slice q qs.length cap) := (hb2.cell (p := ⟨bb, o, none⟩) hbl).trans hc
        have hc3 : (w2.alloc (.cells (vals blankP).toArray 46)).cell? ⟨bb, o, none⟩ = some (.slice q qs.length cap) := (World.cell?_alloc_lt _ _ _ (Nat.lt_of_lt_of_le hbl hb2.size)).trans hc2
        try go_wp2_with fail
        refine hK.out _ _ trivial (fun hHeld => ?_)
        clear hK K
        try simp only [Act.put, List.setIfInBounds_toArray, List.set_cons_zero, List.set_cons_succ]
        refine wpAnyH_ready (rs := [6]) (by kernel_rfl) (by simp) ?_
        refine AllReadyH.cons rfl (fun K hK => ?_) AllReadyH.nil
        rw [if_pos (by rfl)]
        refine wp_buildPage (.tmp 18) rfl blankP rfl (fillP_length _) ?_
        refine hK.out _ _ trivial (fun hHeld => ?_)
        clear hK K
        try simp only [Act.put, List.setIfInBounds_toArray, List.set_cons_zero, List.set_cons_succ]
        refine wpAnyH_ready (rs := [7]) (by kernel_rfl) (by simp) ?_
        refine AllReadyH.cons rfl (fun K hK => ?_) AllReadyH.nil
        rw [if_pos (by rfl)]
        refine wp_appendPage (.tmp 17) (.tmp 19) rfl (.slice q qs.length cap) qs rfl (hR.pages.below (((Below.refl _ wr).drew.trans hb2).alloc (hb2.size) _)) ⟨w2.heap.size, 0, none⟩ blankP rfl (isP_fill 255 (by omega)) (newRange _) (by omega) ?_
        intro p1 c1 w1 hp1 hg1 hat1
        have hst := hR.step (((Below.refl _ wr).drew.trans hb2).alloc (hb2.size) _) hg1 hp1 hat1 hlt
        have hB1 : Blk w1 bb 78 (BC.set o (.slice q qs.length cap)) := Blk.grown (hR.blk.kept (((Below.refl _ wr).drew.trans hb2).alloc (hb2.size) _)) hg1 (fun e => (hR.ne _ e.symm).1 rfl)
        have hc1 := hB1.cell' (i := o) (v := .slice q qs.length cap) (by simp [ho])
        have hf1 := hB1.frozen o
        clear hp1 hg1 hat1 hB1
        refine hK.out _ _ trivial (fun hHeld => ?_)
        clear hK K
        try simp only [Act.put, List.setIfInBounds_toArray, List.set_cons_zero, List.set_cons_succ]
        refine wpAnyH_take (i := 8) (v := ?_) rfl (by kernel_rfl) (by kernel_rfl) (by kernel_rfl) (fun _ _ _ h => h) (Or.inl ⟨by rfl, ?_⟩) hHeld ?_
        rotate_left
        · intro w hSw; go_simp; try (with_reducible rfl)
        try simp only [Act.put, List.setIfInBounds_toArray, List.set_cons_zero, List.set_cons_succ]
        refine wpAnyH_take (i := 9) (v := ?_) rfl (by kernel_rfl) (by kernel_rfl) (by kernel_rfl) (fun _ _ _ h => h) (Or.inl ⟨by rfl, ?_⟩) hHeld ?_
        rotate_left
        · intro w hSw; go_simp; try (with_reducible rfl)
        try simp only [Act.put, List.setIfInBounds_toArray, List.set_cons_zero, List.set_cons_succ]
        refine wpAnyH_ready (rs := [10]) (by kernel_rfl) (by simp) ?_
        refine AllReadyH.cons rfl (fun K hK => ?_) AllReadyH.nil
        go_simp
        refine hK.out _ _ trivial (fun hHeld => ?_)
        clear hK K
        try simp only [Act.put, List.setIfInBounds_toArray, List.set_cons_zero, List.set_cons_succ]
        refine wpAnyH_done (by kernel_rfl) ?_ _
        refine NoPanic.normal ?_
        go_wp2
        go_roundg (n - (qs ++ [blankP]).length)
        case rel => exact ⟨_, _, hst, hq2, by simp; omega, by simp; omega, rfl⟩
        case measure => simp; omega
      refine AllReadyH.cons rfl (fun K hK => ?_) AllReadyH.nil
      go_simp
      refine (blank_any _).mono ?_
      rintro e w2 ⟨rfl, hb2⟩
      have hc2 : w2.cell? ⟨bb, o, none⟩ = some (.slice q qs.length cap) := (hb2.cell (p := ⟨bb, o, none⟩) hbl).trans hc
      have hc3 : (w2.alloc (.cells (vals blankP).toArray 46)).cell? ⟨bb, o, none⟩ = some (.slice q qs.length cap) := (World.cell?_alloc_lt _ _ _ (Nat.lt_of_lt_of_le hbl hb2.size)).trans hc2
      try go_wp2_with fail
      refine hK.out _ _ trivial (fun hHeld => ?_)
      clear hK K
      try simp only [Act.put, List.setIfInBounds_toArray, List.set_cons_zero, List.set_cons_succ]
      refine wpAnyH_ready (rs := [4, 6]) (by kernel_rfl) (by simp) ?_
      refine AllReadyH.cons rfl (fun K hK => ?_) ?_
      · go_simp
        refine hK.out _ _ trivial (fun hHeld => ?_)
        clear hK K
        try simp only [Act.put, List.setIfInBounds_toArray, List.set_cons_zero, List.set_cons_succ]
        refine wpAnyH_ready (rs := [6]) (by kernel_rfl) (by simp) ?_
        refine AllReadyH.cons rfl (fun K hK => ?_) AllReadyH.nil
        rw [if_pos (by rfl)]
        refine wp_buildPage (.tmp 18) rfl blankP rfl (fillP_length _) ?_
        refine hK.out _ _ trivial (fun hHeld => ?_)
        clear hK K
        try simp only [Act.put, List.setIfInBounds_toArray, List.set_cons_zero, List.set_cons_succ]
        refine wpAnyH_ready (rs := [7]) (by kernel_rfl) (by simp) ?_
        refine AllReadyH.cons rfl (fun K hK => ?_) AllReadyH.nil
        rw [if_pos (by rfl)]
        refine wp_appendPage (.tmp 17) (.tmp 19) rfl (.slice q qs.length cap) qs rfl (hR.pages.below (((Below.refl _ wr).drew.trans hb2).alloc (hb2.size) _)) ⟨w2.heap.size, 0, none⟩ blankP rfl (isP_fill 255 (by omega)) (newRange _) (by omega) ?_
        intro p1 c1 w1 hp1 hg1 hat1
        have hst := hR.step (((Below.refl _ wr).drew.trans hb2).alloc (hb2.size) _) hg1 hp1 hat1 hlt
        have hB1 : Blk w1 bb 78 (BC.set o (.slice q qs.length cap)) := Blk.grown (hR.blk.kept (((Below.refl _ wr).drew.trans hb2).alloc (hb2.size) _)) hg1 (fun e => (hR.ne _ e.symm).1 rfl)
        have hc1 := hB1.cell' (i := o) (v := .slice q qs.length cap) (by simp [ho])
        have hf1 := hB1.frozen o
        clear hp1 hg1 hat1 hB1
        refine hK.out _ _ trivial (fun hHeld => ?_)
        clear hK K
        try simp only [Act.put, List.setIfInBounds_toArray, List.set_cons_zero, List.set_cons_succ]
        refine wpAnyH_take (i := 8) (v := ?_) rfl (by kernel_rfl) (by kernel_rfl) (by kernel_rfl) (fun _ _ _ h => h) (Or.inl ⟨by rfl, ?_⟩) hHeld ?_
        rotate_left
        · intro w hSw; go_simp; try (with_reducible rfl)
        try simp only [Act.put, List.setIfInBounds_toArray, List.set_cons_zero, List.set_cons_succ]
        refine wpAnyH_take (i := 9) (v := ?_) rfl (by kernel_rfl) (by kernel_rfl) (by kernel_rfl) (fun _ _ _ h => h) (Or.inl ⟨by rfl, ?_⟩) hHeld ?_
        rotate_left
        · intro w hSw; go_simp; try (with_reducible rfl)
        try simp only [Act.put, List.setIfInBounds_toArray, List.set_cons_zero, List.set_cons_succ]
        refine wpAnyH_ready (rs := [10]) (by kernel_rfl) (by simp) ?_
        refine AllReadyH.cons rfl (fun K hK => ?_) AllReadyH.nil
        go_simp
        refine hK.out _ _ trivial (fun hHeld => ?_)
        clear hK K
        try simp only [Act.put, List.setIfInBounds_toArray, List.set_cons_zero, List.set_cons_succ]
        refine wpAnyH_done (by kernel_rfl) ?_ _
        refine NoPanic.normal ?_
        go_wp2
        go_roundg (n - (qs ++ [blankP]).length)
        case rel => exact ⟨_, _, hst, hq2, by simp; omega, by simp; omega, rfl⟩
        case measure => simp; omega
      refine AllReadyH.cons rfl (fun K hK => ?_) AllReadyH.nil
      rw [if_pos (by rfl)]
      refine wp_buildPage (.tmp 18) rfl blankP rfl (fillP_length _) ?_
      refine hK.out _ _ trivial (fun hHeld => ?_)
      clear hK K
      try simp only [Act.put, List.setIfInBounds_toArray, List.set_cons_zero, List.set_cons_succ]
      refine wpAnyH_ready (rs := [4]) (by kernel_rfl) (by simp) ?_
      refine AllReadyH.cons rfl (fun K hK => ?_) AllReadyH.nil
      go_simp
      refine hK.out _ _ trivial (fun hHeld => ?_)
      clear hK K
      try simp only [Act.put, List.setIfInBounds_toArray, List.set_cons_zero, List.set_cons_succ]
      refine wpAnyH_ready (rs := [7]) (by kernel_rfl) (by simp) ?_
      refine AllReadyH.cons rfl (fun K hK => ?_) AllReadyH.nil
      rw [if_pos (by rfl)]
      refine wp_appendPage (.tmp 17) (.tmp 19) rfl (.slice q qs.length cap) qs rfl (hR.pages.below (((Below.refl _ wr).drew.trans hb2).alloc (hb2.size) _)) ⟨w2.heap.size, 0, none⟩ blankP rfl (isP_fill 255 (by omega)) (newRange _) (by omega) ?_
      intro p1 c1 w1 hp1 hg1 hat1
      have hst := hR.step (((Below.refl _ wr).drew.trans hb2).alloc (hb2.size) _) hg1 hp1 hat1 hlt
      have hB1 : Blk w1 bb 78 (BC.set o (.slice q qs.length cap)) := Blk.grown (hR.blk.kept (((Below.refl _ wr).drew.trans hb2).alloc (hb2.size) _)) hg1 (fun e => (hR.ne _ e.symm).1 rfl)
      have hc1 := hB1.cell' (i := o) (v := .slice q qs.length cap) (by simp [ho])
      have hf1 := hB1.frozen o
      clear hp1 hg1 hat1 hB1
      refine hK.out _ _ trivial (fun hHeld => ?_)
      clear hK K
      try simp only [Act.put, List.setIfInBounds_toArray, List.set_cons_zero, List.set_cons_succ]
      refine wpAnyH_take (i := 8) (v := ?_) rfl (by kernel_rfl) (by kernel_rfl) (by kernel_rfl) (fun _ _ _ h => h) (Or.inl ⟨by rfl, ?_⟩) hHeld ?_
      rotate_left
      · intro w hSw; go_simp; try (with_reducible rfl)
      try simp only [Act.put, List.setIfInBounds_toArray, List.set_cons_zero, List.set_cons_succ]
      refine wpAnyH_take (i := 9) (v := ?_) rfl (by kernel_rfl) (by kernel_rfl) (by kernel_rfl) (fun _ _ _ h => h) (Or.inl ⟨by rfl, ?_⟩) hHeld ?_
      rotate_left
      · intro w hSw; go_simp; try (with_reducible rfl)
      try simp only [Act.put, List.setIfInBounds_toArray, List.set_cons_zero, List.set_cons_succ]
      refine wpAnyH_ready (rs := [10]) (by kernel_rfl) (by simp) ?_
      refine AllReadyH.cons rfl (fun K hK => ?_) AllReadyH.nil
      go_simp
      refine hK.out _ _ trivial (fun hHeld => ?_)
      clear hK K
      try simp only [Act.put, List.setIfInBounds_toArray, List.set_cons_zero, List.set_cons_succ]
      refine wpAnyH_done (by kernel_rfl) ?_ _
      refine NoPanic.normal ?_
      go_wp2
      go_roundg (n - (qs ++ [blankP]).length)
      case rel => exact ⟨_, _, hst, hq2, by simp; omega, by simp; omega, rfl⟩
      case measure => simp; omega
    · obtain rfl : n = qs.length := by omega
      have hput : putP ps qs.length x = qs ++ [x] := by unfold putP; rw [← hq.out]
      have hca : (wr.alloc (.cells (vals x).toArray 46)).cell? ⟨bb, o, none⟩ = some (.slice q qs.length cap) := (World.cell?_alloc_lt _ _ _ hbl).trans hc
      go_wp2
      refine wp_region_noPanic ?_
      refine wp_region_held_drew (S := fun w' => Blk w' w.heap.size 46 (vals x)) (by kernel_rfl) hR.box.drew (fun hHeld => ?_)
      refine wpAnyH_take (i := 0) (v := ?_) rfl (by kernel_rfl) (by kernel_rfl) (by kernel_rfl) (fun _ _ _ h => h) (Or.inl ⟨by rfl, ?_⟩) hHeld ?_
      rotate_left
      · intro w hSw; go_simp; try (with_reducible rfl)
      try simp only [Act.put, List.setIfInBounds_toArray, List.set_cons_zero, List.set_cons_succ]
      refine wpAnyH_take (i := 1) (v := ?_) rfl (by kernel_rfl) (by kernel_rfl) (by kernel_rfl) (fun _ _ _ h => h) (Or.inl ⟨by rfl, ?_⟩) hHeld ?_
      rotate_left
      · intro w hSw; go_simp; try (with_reducible rfl)
      try simp only [Act.put, List.setIfInBounds_toArray, List.set_cons_zero, List.set_cons_succ]
      refine wpAnyH_take (i := 2) (v := ?_) rfl (by kernel_rfl) (by kernel_rfl) (by kernel_rfl) (fun _ _ _ h => h) (Or.inl ⟨by rfl, ?_⟩) hHeld ?_
      rotate_left
      · intro w hSw; go_simp; try (with_reducible rfl)
      try simp only [Act.put, List.setIfInBounds_toArray, List.set_cons_zero, List.set_cons_succ]
      refine wpAnyH_take (i := 3) (v := ?_) rfl (by kernel_rfl) (by kernel_rfl) (by kernel_rfl) (fun _ _ _ h => h) (Or.inl ⟨by rfl, ?_⟩) hHeld ?_
      rotate_left
      · intro w hSw; go_simp; try (with_reducible rfl)
      try simp only [Act.put, List.setIfInBounds_toArray, List.set_cons_zero, List.set_cons_succ]
      refine wpAnyH_take (i := 5) (v := .agg (vals x).toArray) rfl (by kernel_rfl) (by kernel_rfl) (by kernel_rfl) (fun _ _ _ h => h) (yieldsIf_load_mid (by rfl) _ _ rfl (w.heap.size) (0) rfl (vals x) _ (fun w hSw => Blk.range hSw 0 288 _ (by rw [List.drop_zero, List.take_of_length_le (by rw [vals_length, hx.1]; exact Nat.le_refl _)])) Try.underlying46 rfl (sizeP hx.1)) hHeld ?_
      try simp only [Act.put, List.setIfInBounds_toArray, List.set_cons_zero, List.set_cons_succ]
      refine wpAnyH_ready (rs := [4, 6]) (by kernel_rfl) (by simp) ?_
      refine AllReadyH.cons rfl (fun K hK => ?_) ?_
      · go_simp
        refine hK.out _ _ hHeld (fun hHeld => ?_)
        clear hK K
        try simp only [Act.put, List.setIfInBounds_toArray, List.set_cons_zero, List.set_cons_succ]
        refine wpAnyH_ready (rs := [6]) (by kernel_rfl) (by simp) ?_
        refine AllReadyH.cons rfl (fun K hK => ?_) AllReadyH.nil
        rw [if_pos (by rfl)]
        refine wp_buildPage (.tmp 28) rfl x rfl hx.1 ?_
        refine hK.out _ _ (Blk.alloc hHeld _) (fun hHeld => ?_)
        clear hK K
        try simp only [Act.put, List.setIfInBounds_toArray, List.set_cons_zero, List.set_cons_succ]
        refine wpAnyH_ready (rs := [7]) (by kernel_rfl) (by simp) ?_
        refine AllReadyH.cons rfl (fun K hK => ?_) AllReadyH.nil
        rw [if_pos (by rfl)]
        refine wp_appendPage (.tmp 27) (.tmp 29) rfl (.slice q qs.length cap) qs rfl (hR.pages.below ((Below.refl _ wr).drew.alloc (Nat.le_refl _) _)) ⟨wr.heap.size, 0, none⟩ x rfl hx (newRange _) (by omega) ?_
        intro p1 c1 w1 hp1 hg1 hat1
        have hst := hR.step ((Below.refl _ wr).drew.alloc (Nat.le_refl _) _) hg1 hp1 hat1 hlt
        have hN1 : Blk w1 w.heap.size 46 (vals x) := Blk.grown (hR.box.kept ((Below.refl _ wr).drew.alloc (Nat.le_refl _) _)) hg1 (fun e => (hR.ne _ e.symm).2 rfl)
        have hB1 : Blk w1 bb 78 (BC.set o (.slice q qs.length cap)) := Blk.grown (hR.blk.kept ((Below.refl _ wr).drew.alloc (Nat.le_refl _) _)) hg1 (fun e => (hR.ne _ e.symm).1 rfl)
        have hc1 := hB1.cell' (i := o) (v := .slice q qs.length cap) (by simp [ho])
        have hf1 := hB1.frozen o
        clear hp1 hg1 hat1 hB1
        refine hK.out _ _ hN1 (fun hHeld => ?_)
        clear hK K
        try simp only [Act.put, List.setIfInBounds_toArray, List.set_cons_zero, List.set_cons_succ]
        refine wpAnyH_take (i := 8) (v := ?_) rfl (by kernel_rfl) (by kernel_rfl) (by kernel_rfl) (fun _ _ _ h => h) (Or.inl ⟨by rfl, ?_⟩) hHeld ?_
        rotate_left
        · intro w hSw; go_simp; try (with_reducible rfl)
        try simp only [Act.put, List.setIfInBounds_toArray, List.set_cons_zero, List.set_cons_succ]
        refine wpAnyH_take (i := 9) (v := ?_) rfl (by kernel_rfl) (by kernel_rfl) (by kernel_rfl) (fun _ _ _ h => h) (Or.inl ⟨by rfl, ?_⟩) hHeld ?_
        rotate_left
        · intro w hSw; go_simp; try (with_reducible rfl)
        try simp only [Act.put, List.setIfInBounds_toArray, List.set_cons_zero, List.set_cons_succ]
        refine wpAnyH_ready (rs := [10]) (by kernel_rfl) (by simp) ?_
        refine AllReadyH.cons rfl (fun K hK => ?_) AllReadyH.nil
        go_simp
        refine hK.out _ _ (Blk.setOther hN1 _ _ (by simp; omega)) (fun hHeld => ?_)
        clear hK K
        try simp only [Act.put, List.setIfInBounds_toArray, List.set_cons_zero, List.set_cons_succ]
        refine wpAnyH_done (by kernel_rfl) ?_ _
        refine NoPanic.normal ?_
        go_wp2
        go_end0
        exact ⟨⟨_, rfl⟩, _, hst.blk, by rw [hput]; exact hst.pages, hst.keep, hst.fr⟩
      refine AllReadyH.cons rfl (fun K hK => ?_) AllReadyH.nil
      rw [if_pos (by rfl)]
      refine wp_buildPage (.tmp 28) rfl x rfl hx.1 ?_
      refine hK.out _ _ (Blk.alloc hHeld _) (fun hHeld => ?_)
      clear hK K
      try simp only [Act.put, List.setIfInBounds_toArray, List.set_cons_zero, List.set_cons_succ]
      refine wpAnyH_ready (rs := [4]) (by kernel_rfl) (by simp) ?_
      refine AllReadyH.cons rfl (fun K hK => ?_) AllReadyH.nil
      go_simp
      refine hK.out _ _ hHeld (fun hHeld => ?_)
      clear hK K
      try simp only [Act.put, List.setIfInBounds_toArray, List.set_cons_zero, List.set_cons_succ]
      refine wpAnyH_ready (rs := [7]) (by kernel_rfl) (by simp) ?_
      refine AllReadyH.cons rfl (fun K hK => ?_) AllReadyH.nil
      rw [if_pos (by rfl)]
      refine wp_appendPage (.tmp 27) (.tmp 29) rfl (.slice q qs.length cap) qs rfl (hR.pages.below ((Below.refl _ wr).drew.alloc (Nat.le_refl _) _)) ⟨wr.heap.size, 0, none⟩ x rfl hx (newRange _) (by omega) ?_
      intro p1 c1 w1 hp1 hg1 hat1
      have hst := hR.step ((Below.refl _ wr).drew.alloc (Nat.le_refl _) _) hg1 hp1 hat1 hlt
      have hN1 : Blk w1 w.heap.size 46 (vals x) := Blk.grown (hR.box.kept ((Below.refl _ wr).drew.alloc (Nat.le_refl _) _)) hg1 (fun e => (hR.ne _ e.symm).2 rfl)
      have hB1 : Blk w1 bb 78 (BC.set o (.slice q qs.length cap)) := Blk.grown (hR.blk.kept ((Below.refl _ wr).drew.alloc (Nat.le_refl _) _)) hg1 (fun e => (hR.ne _ e.symm).1 rfl)
      have hc1 := hB1.cell' (i := o) (v := .slice q qs.length cap) (by simp [ho])
      have hf1 := hB1.frozen o
      clear hp1 hg1 hat1 hB1
      refine hK.out _ _ hN1 (fun hHeld => ?_)
      clear hK K
      try simp only [Act.put, List.setIfInBounds_toArray, List.set_cons_zero, List.set_cons_succ]
      refine wpAnyH_take (i := 8) (v := ?_) rfl (by kernel_rfl) (by kernel_rfl) (by kernel_rfl) (fun _ _ _ h => h) (Or.inl ⟨by rfl, ?_⟩) hHeld ?_
      rotate_left
      · intro w hSw; go_simp; try (with_reducible rfl)
      try simp only [Act.put, List.setIfInBounds_toArray, List.set_cons_zero, List.set_cons_succ]
      refine wpAnyH_take (i := 9) (v := ?_) rfl (by kernel_rfl) (by kernel_rfl) (by kernel_rfl) (fun _ _ _ h => h) (Or.inl ⟨by rfl, ?_⟩) hHeld ?_
      rotate_left
      · intro w hSw; go_simp; try (with_reducible rfl)
      try simp only [Act.put, List.setIfInBounds_toArray, List.set_cons_zero, List.set_cons_succ]
      refine wpAnyH_ready (rs := [10]) (by kernel_rfl) (by simp) ?_
      refine AllReadyH.cons rfl (fun K hK => ?_) AllReadyH.nil
      go_simp
      refine hK.out _ _ (Blk.setOther hN1 _ _ (by simp; omega)) (fun hHeld => ?_)
      clear hK K
      try simp only [Act.put, List.setIfInBounds_toArray, List.set_cons_zero, List.set_cons_succ]
      refine wpAnyH_done (by kernel_rfl) ?_ _
      refine NoPanic.normal ?_
      go_wp2
      go_end0
      exact ⟨⟨_, rfl⟩, _, hst.blk, by rw [hput]; exact hst.pages, hst.keep, hst.fr⟩
end Go.Proofs.Ythafcnilhloldaa
