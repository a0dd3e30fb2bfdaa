/-
  A chip that no call made: what its calls answer.
-/
import Derived.Test.YthafcnilhloldabNBegun2
namespace Go.Proofs.Ythafcnilhloldab
open Go.RowKit Go.Shelf
attribute [local go_sem] Oper.semAt_some
/-- No call made this chip: nil, or without blocks. -/
def NoChip (w : World) (v : Value) : Prop := v = .pointer none ∨ ∃ c, v = .pointer (some ⟨c, 0, none⟩) ∧ w.cell? ⟨c, 2, none⟩ = some (.slice none 0 0) ∧ c < w.heap.size
theorem NoChip.below {w w' : World} {v : Value} (h : NoChip w v) (hb : Below w.heap.size w w') : NoChip w' v := by
  rcases h with h | ⟨c, h, h2, h3⟩
  · exact .inl h
  · exact .inr ⟨c, h, (hb.cell (p := ⟨c, 2, none⟩) h3).trans h2, Nat.lt_of_lt_of_le h3 hb.size⟩
theorem made_no {w : World} {v : Value} (h : NoChip w v) : Calls Try.prog 20 #[v] w fun e w' => e = .returned (.bool false) ∧ w' = w := by
  rcases h with rfl | ⟨c, rfl, h2, _⟩
  · exact made_none w
  · exact made_any c none 0 0 w h2
theorem restart_no {w : World} {v : Value} (h : NoChip w v) : Calls Try.prog 12 #[v] w fun e w' => e = .returned (.int .i64 2) ∧ w' = w := by
  have hm := made_no h
  go_enter Try.func12, Try.ntmps12
  go_wp2_with (go_at_call 20; refine hm.mono ?_; rintro e w' ⟨rfl, rfl⟩)
  go_ret
  exact ⟨rfl, rfl⟩
theorem ops_no {w : World} {v : Value} (h : NoChip w v) : Calls Try.prog 13 #[v] w fun e w' => e = .returned (.int .i64 0) ∧ w' = w := by
  have hm := made_no h
  go_enter Try.func13, Try.ntmps13
  go_wp2_with (go_at_call 20; refine hm.mono ?_; rintro e w' ⟨rfl, rfl⟩)
  go_ret
  exact ⟨rfl, rfl⟩
theorem on_no {w : World} {v : Value} (h : NoChip w v) : Calls Try.prog 14 #[v] w fun e w' => e = .returned (.bool false) ∧ w' = w := by
  have hm := made_no h
  go_enter Try.func14, Try.ntmps14
  go_wp2_with (go_at_call 20; refine hm.mono ?_; rintro e w' ⟨rfl, rfl⟩)
  go_ret
  exact ⟨rfl, rfl⟩
theorem geometry_no {w : World} {v : Value} (h : NoChip w v) : Calls Try.prog 16 #[v] w fun e w' => e = .returned (.agg #[.int .i64 0, .int .i64 0]) ∧ Below w.heap.size w w' := by
  have hm := fun W (hW : NoChip W v) => made_no hW
  have hb := below_alloc w (.cells #[.int .i64 0, .int .i64 0] 27)
  go_enter Try.func16, Try.ntmps16
  go_wp2_with (go_at_call 20; refine (hm _ (h.below hb)).mono ?_; rintro e w' ⟨rfl, rfl⟩)
  exact bodyPost_ret (v := .agg #[.int .i64 0, .int .i64 0]) (by simp [results, Try.results16, go_sem]) rfl ⟨rfl, hb⟩
theorem clone_no {w : World} {v : Value} (h : NoChip w v) : Calls Try.prog 15 #[v] w fun e w' => e = .returned (.pointer none) ∧ w' = w := by
  have hm := made_no h
  go_enter Try.func15, Try.ntmps15
  go_wp2_with (go_at_call 20; refine hm.mono ?_; rintro e w' ⟨rfl, rfl⟩)
  go_ret
  exact ⟨rfl, rfl⟩
theorem reach_no {w : World} {v : Value} (h : NoChip w v) (b p : Int) : Calls Try.prog 18 #[v, .int .i64 b, .int .i64 p] w fun e w' => e = .returned (.int .i64 2) ∧ w' = w := by
  have hm := made_no h
  go_enter Try.func18, Try.ntmps18
  go_wp2_with (go_at_call 20; refine hm.mono ?_; rintro e w' ⟨rfl, rfl⟩)
  go_ret
  exact ⟨rfl, rfl⟩
theorem erase_no {w : World} {v : Value} (h : NoChip w v) (b : Int) : Calls Try.prog 11 #[v, .int .i64 b] w fun e w' => e = .returned (.int .i64 2) ∧ w' = w := by
  have hm := reach_no h b 0
  go_enter Try.func11, Try.ntmps11
  go_wp2_with (go_at_call 18; refine hm.mono ?_; rintro e w' ⟨rfl, rfl⟩)
  go_ret
  exact ⟨rfl, rfl⟩
set_option maxRecDepth 100000 in
theorem program_no {w : World} {v : Value} (h : NoChip w v) (b p : Int) (x : List Nat) : Calls Try.prog 9 #[v, .int .i64 b, .int .i64 p, .agg (vals x).toArray] w fun e w' => e = .returned (.int .i64 2) ∧ Below w.heap.size w w' := by
  have hbel := below_alloc w (.cells (vals x).toArray 36)
  have hm := reach_no (h.below hbel) b p
  go_enter Try.func9, Try.ntmps9
  go_wp2_with (go_at_call 18; refine hm.mono ?_; rintro e w' ⟨rfl, rfl⟩)
  go_ret
  exact ⟨rfl, hbel⟩
theorem look_no {w : World} {v : Value} (h : NoChip w v) (b : Int) : Calls Try.prog 6 #[v, .int .i64 b] w fun e w' => e = .returned (.tuple #[.agg #[.int .i64 0, .int .i64 0, .bool false], .int .i64 2]) ∧ Below w.heap.size w w' := by
  have hb := below_alloc w (.cells #[.int .i64 0, .int .i64 0, .bool false] 41)
  have hm := made_no (h.below hb)
  go_enter Try.func6, Try.ntmps6
  go_wp2_with (go_at_call 20; refine hm.mono ?_; rintro e w' ⟨rfl, rfl⟩)
  exact bodyPost_ret (v := .tuple #[.agg #[.int .i64 0, .int .i64 0, .bool false], .int .i64 2]) (by simp [results, Try.results6, go_sem]) rfl ⟨rfl, hb⟩
theorem pages_no {w : World} {v : Value} (h : NoChip w v) (b : Int) : Calls Try.prog 8 #[v, .int .i64 b] w fun e w' => ∃ Bs, e = .returned (.func (.func 33) #[] #[.pointer (some ⟨Bs, 0, none⟩)]) ∧ w'.cell? ⟨Bs, 0, none⟩ = some (.slice none 0 0) ∧ Below w.heap.size w w' := by
  have hm := made_no h
  go_enter Try.func8, Try.ntmps8
  go_wp2_with (first
    | (go_at_call 20; refine hm.mono ?_; rintro e w' ⟨rfl, rfl⟩)
    | (go_at_call 22; refine (all_any none 0 0 _).mono ?_; rintro e w2 ⟨rfl, rfl⟩))
  go_ret
  exact ⟨_, rfl, (Boxed.new _ _ _).cell, below_alloc _ _⟩
set_option maxRecDepth 100000 in
set_option maxHeartbeats 1000000 in
theorem read_no {w : World} {v : Value} (h : NoChip w v) (b p : Int) : Calls Try.prog 5 #[v, .int .i64 b, .int .i64 p] w fun e w' => e = .returned (.tuple #[.agg (vals (fillP 0)).toArray, .int .i64 2]) ∧ Below w.heap.size w w' := by
  have hz := zeroPage
  have hbp := build_page
  have hb0 := Blk.new w 36 (vals (fillP 0))
  have hbel := below_alloc w (.cells (vals (fillP 0)).toArray 36)
  have hr := reach_no (h.below hbel) b p
  go_enter Try.func5, Try.ntmps5
  go_wp2_with (first
    | (go_at_call 18; refine hr.mono ?_; rintro e w' ⟨rfl, rfl⟩)
    | (refine wpList_store_blk rfl 36 _ _ rfl _ _ (vals (fillP 0)) rfl rfl hb0 (by rw [vals_length, fillP_length]; exact Nat.le_refl _) (sizeP (fillP_length _)) (vals_one _) ?_; intro w8 h8 ht8; rw [whole_row rfl] at h8))
  exact ret_pageE Try.results5 rfl h8 (fillP_length _) rfl rfl ⟨rfl, ht8.below hbel (Nat.le_refl _)⟩
theorem all_none (F : Fence) (n : Nat) (h8 : F.fn 33) (hro : F.round = none) (Bs : Nat) (Kp : World → World → Prop) (w : World) (hc : w.cell? ⟨Bs, 0, none⟩ = some (.slice none 0 0)) :
    SeqStopsK F n Try.prog 33 #[.pointer (some ⟨Bs, 0, none⟩)] (fun x : Empty => x.elim) Kp (fun ys => ys = []) (fun _ => False) 0 w := fun l J Jx W hW hJ _ hY h0 => by
  have hc' := (hW.cell (p := ⟨Bs, 0, none⟩) (block_lt_of_cell hc)).trans hc
  exact (all1_nil_in F n h8 hro l Bs (fun _ => J []) W none 0 hc' h0).mono fun e W' ⟨he, hj⟩ => ⟨he, .inl ⟨_, rfl, hj⟩⟩
theorem func_nil (w : World) (f : Fn) (a b : Array Value) : (binOp .eql 49 (.func f a b) .nilFunc).run Try.prog w = .ok (.bool false) w := by
  have h : ∀ d : Nat, (Op.equalIn (d + 1) 49 (.func f a b) .nilFunc).run Try.prog w = .ok false w := fun d => by
    simp [Op.equalIn]
  simp only [binOp]
  simp [Op.equal, Op.maxDepth, h 9999]
set_option maxRecDepth 100000 in
set_option maxHeartbeats 2000000 in
theorem lpages_in (n : Nat) (hn : 4 ≤ n) (Bs : Nat) (m : Int) (w : World) (hBs : w.cell? ⟨Bs, 0, none⟩ = some (.slice none 0 0)) :
    CallsIn Fence.wide n Try.prog 7 #[.func (.func 33) #[] #[.pointer (some ⟨Bs, 0, none⟩)], .int .i64 m] w fun e w' => e = .returned (.tuple #[.slice none 0 0, .slice none 0 0]) ∧ Below w.heap.size w w' := by
  have h1 : 1 ≤ n := by omega
  have hlt : Bs < w.heap.size := block_lt_of_cell hBs
  refine callsIn_of_wp_marks Try.func7 rfl trivial ?_ rfl
  simp only [Try.ntmps7, List.size_toArray, List.length_cons, List.length_nil, Nat.reduceAdd, Nat.reduceSub, Array.replicate_succ, Array.replicate_zero, List.push_toArray, List.append_toArray, List.nil_append, List.cons_append]
  have hfn := fun W a b => func_nil W (.func 33) a b
  gi_wp2
  have hbel : Below w.heap.size w (((w.alloc (.cells #[.int .i64 m] 3)).alloc (.cells #[.slice none 0 0] 44)).alloc (.cells #[.slice none 0 0] 45)) := bt (bt (below_alloc w _) (below_alloc _ _)) (below_alloc _ _)
  have hx6 := (Boxed.new (w.alloc (.cells #[.int .i64 m] 3)) 44 (.slice none 0 0)).alloc (.cells #[.slice none 0 0] 45)
  have hx7 := Boxed.new ((w.alloc (.cells #[.int .i64 m] 3)).alloc (.cells #[.slice none 0 0] 44)) 45 (.slice none 0 0)
  have hsz : (((w.alloc (.cells #[.int .i64 m] 3)).alloc (.cells #[.slice none 0 0] 44)).alloc (.cells #[.slice none 0 0] 45)).heap.size = w.heap.size + 3 := by simp
  simp only [World.size_alloc] at hx6 hx7
  have hBs' := (hbel.cell (p := ⟨Bs, 0, none⟩) hlt).trans hBs
  generalize ((w.alloc (.cells #[.int .i64 m] 3)).alloc (.cells #[.slice none 0 0] 44)).alloc (.cells #[.slice none 0 0] 45) = W0 at *
  refine wpIn_rangeFunc_ownF rfl h1 (gf := 33) (lb := #[.pointer (some ⟨Bs, 0, none⟩)]) rfl trivial (enters_of Try.func33 (by kernel_rfl) rfl)
    (all_none Fence.wide (n - 1) trivial rfl Bs (fun _ _ => True) W0 hBs') (fun _ _ => trivial) (fun _ _ _ _ _ _ _ _ => trivial) (Below.refl _ _) (fun x => x.elim)
    (fun _ W => Boxed W (w.heap.size + 1) 44 (.slice none 0 0) ∧ Boxed W (w.heap.size + 1 + 1) 45 (.slice none 0 0) ∧ Below w.heap.size w W)
    (fun _ _ _ => False)
    (OwnFrom.and (Own.from (boxed_own (w.heap.size + 1) 44 (fun _ : List Empty => Value.slice none 0 0)) _) (OwnFrom.and (Own.from (boxed_own (w.heap.size + 1 + 1) 45 (fun _ : List Empty => Value.slice none 0 0)) _) (ownFrom_below (Nat.le_refl _) (by omega))))
    (fun _ _ _ _ _ hs _ _ => hs)
    ⟨hx6, hx7, hbel⟩
    (fun x => x.elim)
    ?assign ?body ?done ?stop
  case assign =>
    intro l x
    exact x.elim
  case body =>
    intro l pre x
    exact x.elim
  case done =>
    rintro D ys W hD rfl ⟨hy6, hy7, hB⟩ hK
    have hc6 := hy6.cell
    have hc7 := hy7.cell
    gi_wp2
    refine wpIn_region_any (by kernel_rfl) ?_
    change wpAnyIn _ _ _ _ _ _ _ _ _ (World.drew _)
    refine wpAnyIn_ready (rs := [0, 1]) (by kernel_rfl) (by simp) ?_
    refine AllReadyIn.cons rfl (fun K hK => ?_) ?_
    · go_simp
      refine hK _ _ ?_
      clear hK K
      try simp only [Act.put, List.getElem_toArray, List.getElem_cons_succ, List.getElem_cons_zero, List.setIfInBounds_toArray, List.set_cons_zero, List.set_cons_succ]
      refine wpAnyIn_ready (rs := [1, 2]) (by kernel_rfl) (by simp) ?_
      refine AllReadyIn.cons rfl (fun K hK => ?_) ?_
      · go_simp
        refine hK _ _ ?_
        clear hK K
        try simp only [Act.put, List.getElem_toArray, List.getElem_cons_succ, List.getElem_cons_zero, List.setIfInBounds_toArray, List.set_cons_zero, List.set_cons_succ]
        refine wpAnyIn_ready (rs := [2]) (by kernel_rfl) (by simp) ?_
        refine AllReadyIn.cons rfl (fun K hK => ?_) AllReadyIn.nil
        go_simp
        refine hK _ _ ?_
        clear hK K
        try simp only [Act.put, List.getElem_toArray, List.getElem_cons_succ, List.getElem_cons_zero, List.setIfInBounds_toArray, List.set_cons_zero, List.set_cons_succ]
        refine wpAnyIn_ready (rs := [3]) (by kernel_rfl) (by simp) ?_
        refine AllReadyIn.cons rfl (fun K hK => ?_) AllReadyIn.nil
        go_simp
        refine hK _ _ ?_
        clear hK K
        try simp only [Act.put, List.getElem_toArray, List.getElem_cons_succ, List.getElem_cons_zero, List.setIfInBounds_toArray, List.set_cons_zero, List.set_cons_succ]
        refine wpAnyIn_done (by kernel_rfl) ?_ _
        gi_wp2
        refine ⟨by simp, .inl ⟨_, _, rfl, run_takeDeferred hK, ?_⟩⟩
        have hbD : Below w.heap.size W.drew (W.drew.putObj D (.deferred none)) := belowK_b (w := w) (Nat.le_refl _) W.drew D _ _ (by omega) hK rfl rfl
        exact ⟨_, results_tmp2 rfl _ _ _, rfl, hB.drew.trans hbD⟩
      refine AllReadyIn.cons rfl (fun K hK => ?_) AllReadyIn.nil
      go_simp
      refine hK _ _ ?_
      clear hK K
      try simp only [Act.put, List.getElem_toArray, List.getElem_cons_succ, List.getElem_cons_zero, List.setIfInBounds_toArray, List.set_cons_zero, List.set_cons_succ]
      refine wpAnyIn_ready (rs := [1]) (by kernel_rfl) (by simp) ?_
      refine AllReadyIn.cons rfl (fun K hK => ?_) AllReadyIn.nil
      go_simp
      refine hK _ _ ?_
      clear hK K
      try simp only [Act.put, List.getElem_toArray, List.getElem_cons_succ, List.getElem_cons_zero, List.setIfInBounds_toArray, List.set_cons_zero, List.set_cons_succ]
      refine wpAnyIn_ready (rs := [3]) (by kernel_rfl) (by simp) ?_
      refine AllReadyIn.cons rfl (fun K hK => ?_) AllReadyIn.nil
      go_simp
      refine hK _ _ ?_
      clear hK K
      try simp only [Act.put, List.getElem_toArray, List.getElem_cons_succ, List.getElem_cons_zero, List.setIfInBounds_toArray, List.set_cons_zero, List.set_cons_succ]
      refine wpAnyIn_done (by kernel_rfl) ?_ _
      gi_wp2
      refine ⟨by simp, .inl ⟨_, _, rfl, run_takeDeferred hK, ?_⟩⟩
      have hbD : Below w.heap.size W.drew (W.drew.putObj D (.deferred none)) := belowK_b (w := w) (Nat.le_refl _) W.drew D _ _ (by omega) hK rfl rfl
      exact ⟨_, results_tmp2 rfl _ _ _, rfl, hB.drew.trans hbD⟩
    refine AllReadyIn.cons rfl (fun K hK => ?_) AllReadyIn.nil
    go_simp
    refine hK _ _ ?_
    clear hK K
    try simp only [Act.put, List.getElem_toArray, List.getElem_cons_succ, List.getElem_cons_zero, List.setIfInBounds_toArray, List.set_cons_zero, List.set_cons_succ]
    refine wpAnyIn_ready (rs := [0]) (by kernel_rfl) (by simp) ?_
    refine AllReadyIn.cons rfl (fun K hK => ?_) AllReadyIn.nil
    go_simp
    refine hK _ _ ?_
    clear hK K
    try simp only [Act.put, List.getElem_toArray, List.getElem_cons_succ, List.getElem_cons_zero, List.setIfInBounds_toArray, List.set_cons_zero, List.set_cons_succ]
    refine wpAnyIn_ready (rs := [2]) (by kernel_rfl) (by simp) ?_
    refine AllReadyIn.cons rfl (fun K hK => ?_) AllReadyIn.nil
    go_simp
    refine hK _ _ ?_
    clear hK K
    try simp only [Act.put, List.getElem_toArray, List.getElem_cons_succ, List.getElem_cons_zero, List.setIfInBounds_toArray, List.set_cons_zero, List.set_cons_succ]
    refine wpAnyIn_ready (rs := [3]) (by kernel_rfl) (by simp) ?_
    refine AllReadyIn.cons rfl (fun K hK => ?_) AllReadyIn.nil
    go_simp
    refine hK _ _ ?_
    clear hK K
    try simp only [Act.put, List.getElem_toArray, List.getElem_cons_succ, List.getElem_cons_zero, List.setIfInBounds_toArray, List.set_cons_zero, List.set_cons_succ]
    refine wpAnyIn_done (by kernel_rfl) ?_ _
    gi_wp2
    refine ⟨by simp, .inl ⟨_, _, rfl, run_takeDeferred hK, ?_⟩⟩
    have hbD : Below w.heap.size W.drew (W.drew.putObj D (.deferred none)) := belowK_b (w := w) (Nat.le_refl _) W.drew D _ _ (by omega) hK rfl rfl
    exact ⟨_, results_tmp2 rfl _ _ _, rfl, hB.drew.trans hbD⟩
  case stop =>
    rintro D c pre W _ _ h _
    exact h.elim
theorem lpages_any (Bs : Nat) (m : Int) (w : World) (hBs : w.cell? ⟨Bs, 0, none⟩ = some (.slice none 0 0)) :
    Calls Try.prog 7 #[.func (.func 33) #[] #[.pointer (some ⟨Bs, 0, none⟩)], .int .i64 m] w fun e w' => e = .returned (.tuple #[.slice none 0 0, .slice none 0 0]) ∧ Below w.heap.size w w' :=
  (callsIn_wide (n := 4)).1 (lpages_in 4 (Nat.le_refl _) Bs m w hBs)
end Go.Proofs.Ythafcnilhloldab
