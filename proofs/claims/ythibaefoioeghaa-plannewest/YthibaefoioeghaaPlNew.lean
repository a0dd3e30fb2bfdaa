/-
  The table of a disk on which nothing was written.
-/
import Derived.Test.YthibaefoioeghaaPlRet
namespace Go.Proofs.Ythibaefoioeghaa
open Go.RowKit
def newT (p : Int) (L : Nat) (k : Int) (m : Nat) : Tab := ⟨p, (L : Int), k, List.replicate L (-1), List.replicate m false, -1, 0, 0, []⟩
theorem make_bools (n : Nat) (hn : n ≤ 1000000) (W : World) : (Instr.makeSlice 23 (.int .i64 (n : Int)) (.int .i64 (n : Int))).run Try.prog W = .ok (.slice (some ⟨W.heap.size, 0, none⟩) n n) (W.alloc (.cells (valsB (List.replicate n false)).toArray 4)) := by
  obtain ⟨i0, hi, hz0, hz1, hz2⟩ := info_parts info4
  have := run_make (P := Try.prog) W 23 4 i0 (.bool false) Try.underlying23 hi hz0 .i64 .i64 (n : Int) (n : Int) (by omega) (by omega) (by rw [hz2]; omega) (by omega)
  rw [this, hz1]
  have e : madeCells (Value.bool false).cells ((n : Int).toNat * 1) = (valsB (List.replicate n false)).toArray := by
    apply Array.toList_inj.1
    rw [show (Value.bool false).cells = #[Value.bool false] from rfl, toList_madeCells_one]
    simp [valsB]
  rw [e]
  simp
theorem owns_of_blkI {w : World} {B g n : Nat} {e : TypeId} {xs : List Int} (hB : B ≤ g) (hn : xs.length = n) (hm : n ≤ maxLen) (h : Blk w g e (valsI xs)) : w.ownsRow B e 1 (.slice (some ⟨g, 0, none⟩) n n) n (valsI xs) :=
  ⟨by rw [valsI_length]; omega, .inr ⟨g, n, (valsI xs).toArray, rfl, hB, h, Nat.le_refl _, hm, by simp [valsI_length, hn], by rw [List.take_of_length_le (by simp [valsI_length]; omega)]⟩⟩
theorem owns_of_blkB {w : World} {B g n : Nat} {e : TypeId} {xs : List Bool} (hB : B ≤ g) (hn : xs.length = n) (hm : n ≤ maxLen) (h : Blk w g e (valsB xs)) : w.ownsRow B e 1 (.slice (some ⟨g, 0, none⟩) n n) n (valsB xs) :=
  ⟨by rw [valsB_length]; omega, .inr ⟨g, n, (valsB xs).toArray, rfl, hB, h, Nat.le_refl _, hm, by simp [valsB_length, hn], by rw [List.take_of_length_le (by simp [valsB_length]; omega)]⟩⟩
theorem in_neg (W : World) : InI (W.alloc (.cells #[.int .i64 (-1)] 3)) (some ⟨W.heap.size, 0, none⟩) 1 1 [-1] := by
  have b := Blk.new' W 3 #[.int .i64 (-1)]
  refine ⟨rfl, Nat.le_refl _, by unfold maxLen; omega, by omega, fun _ => ⟨W.heap.size, 0, rfl, b.lt, fun i hi => ?_⟩, fun h => by cases h⟩
  obtain rfl : i = 0 := Nat.lt_one_iff.1 hi
  exact b.cell' rfl
theorem nres {W W' : World} {g : Nat} (h : ∃ cs : List Value, cs.length = 9 ∧ Blk W g 28 cs) (hb : Below W.heap.size W W') : ∃ cs : List Value, cs.length = 9 ∧ Blk W' g 28 cs := by
  obtain ⟨cs, hl, hr⟩ := h
  exact ⟨cs, hl, hr.kept hb⟩
set_option linter.unusedSimpArgs false in
set_option maxRecDepth 100000 in
set_option maxHeartbeats 8000000 in
theorem new_ok (p : Int) (L : Nat) (k : Int) (m : Nat) (w : World) (hok : okSz p (L : Int) k = true) (hm : (L : Int) * p = (m : Int)) :
    Calls Try.prog 26 #[.int .i64 p, .int .i64 (L : Int), .int .i64 k] w fun e w' => ∃ V, e = .returned (.tuple #[.agg (tabA V (newT p L k m)), .int .i64 0]) ∧ OwnT w.heap.size w' V (newT p L k m) [] ∧ V.nd = L ∧ V.nh = m ∧ V.nl = 0 ∧ Below w.heap.size w w' := by
  have hszs := fun w => sizes_any p (L : Int) k w
  obtain ⟨r1, r2, r3⟩ := okSz_iff.1 hok
  rw [hok] at hszs
  have hmb : m ≤ 8192 := by have := prod_bound r2 r1; omega
  have hL1 : 1 ≤ L := by omega
  have hL2 : L ≤ 256 := by omega
  have hw1 : IntKind.i64.wrap ((L : Int) * p) = (m : Int) := by rw [hm]; exact wrapN m (by omega)
  have hw2 : wrap64 ((L : Int) * p) = (m : Int) := (IntWalk.i64_left _).symm.trans hw1
  have hmk := make_bools m (by omega)
  have r0 := Blk.new' w 28 #[.int .i64 0, .int .i64 0, .int .i64 0, .slice none 0 0, .slice none 0 0, .int .i64 0, .int .i64 0, .int .i64 0, .slice none 0 0]
  have hb0 := below_alloc w (.cells #[.int .i64 0, .int .i64 0, .int .i64 0, .slice none 0 0, .slice none 0 0, .int .i64 0, .int .i64 0, .int .i64 0, .slice none 0 0] 28)
  clear hok r1 r2 r3 hm
  go_enter Try.func26, Try.ntmps26
  go_upto_region 3 with (go_at_call 47; refine (hszs _).mono ?_; rintro e w' ⟨rfl, hw'⟩; have hw3 := hw'.symm; subst hw3; clear hw')
  generalize hW : w.alloc (.cells #[.int .i64 0, .int .i64 0, .int .i64 0, .slice none 0 0, .slice none 0 0, .int .i64 0, .int .i64 0, .int .i64 0, .slice none 0 0] 28) = W0 at *
  have hsz : w.heap.size + 1 ≤ W0.heap.size := by rw [← hW, World.size_alloc]; exact Nat.le_refl _
  clear hW
  refine wp_region_noPanic ?_
  refine wp_region_held_drew (S := fun W => Below w.heap.size w W ∧ ∃ cs : List Value, cs.length = 9 ∧ Blk W w.heap.size 28 cs) (by kernel_rfl) ⟨hb0.drew, ⟨_, rfl, r0.drew⟩⟩ (fun hHeld => ?_)
  replace hsz : w.heap.size + 1 ≤ W0.drew.heap.size := hsz
  clear hb0 r0
  generalize W0.drew = W0 at *
  refine wpAnyH_take (i := 0) (v := ?_) rfl (by kernel_rfl) (by kernel_rfl) (by kernel_rfl) (fun _ _ _ h => h) (Or.inl ⟨by rfl, ?_⟩) hHeld ?_
  rotate_left
  · intro w' hSw; try dsimp only at hSw
    go_simp; try (with_reducible rfl)
  try simp only [Act.put, List.getElem_toArray, List.getElem_cons_succ, List.getElem_cons_zero, List.setIfInBounds_toArray, List.set_cons_zero, List.set_cons_succ]
  refine wpAnyH_take (i := 1) (v := ?_) rfl (by kernel_rfl) (by kernel_rfl) (by kernel_rfl) (fun _ _ _ h => h) (Or.inl ⟨by rfl, ?_⟩) hHeld ?_
  rotate_left
  · intro w' hSw; try dsimp only at hSw
    go_simp; try (with_reducible rfl)
  try simp only [Act.put, List.getElem_toArray, List.getElem_cons_succ, List.getElem_cons_zero, List.setIfInBounds_toArray, List.set_cons_zero, List.set_cons_succ]
  refine wpAnyH_take (i := 2) (v := ?_) rfl (by kernel_rfl) (by kernel_rfl) (by kernel_rfl) (fun _ _ _ h => h) (Or.inl ⟨by rfl, ?_⟩) hHeld ?_
  rotate_left
  · intro w' hSw; try dsimp only at hSw
    go_simp; try (with_reducible rfl)
  try simp only [Act.put, List.getElem_toArray, List.getElem_cons_succ, List.getElem_cons_zero, List.setIfInBounds_toArray, List.set_cons_zero, List.set_cons_succ]
  refine wpAnyH_take (i := 4) (v := ?_) rfl (by kernel_rfl) (by kernel_rfl) (by kernel_rfl) (fun _ _ _ h => h) (Or.inl ⟨by rfl, ?_⟩) hHeld ?_
  rotate_left
  · intro w' hSw; try dsimp only at hSw
    go_simp; try (with_reducible rfl)
  try simp only [Act.put, List.getElem_toArray, List.getElem_cons_succ, List.getElem_cons_zero, List.setIfInBounds_toArray, List.set_cons_zero, List.set_cons_succ]
  refine wpAnyH_take (i := 6) (v := ?_) rfl (by kernel_rfl) (by kernel_rfl) (by kernel_rfl) (fun _ _ _ h => h) (Or.inl ⟨by rfl, ?_⟩) hHeld ?_
  rotate_left
  · intro w' hSw; try dsimp only at hSw
    go_simp; try (with_reducible rfl)
  try simp only [Act.put, List.getElem_toArray, List.getElem_cons_succ, List.getElem_cons_zero, List.setIfInBounds_toArray, List.set_cons_zero, List.set_cons_succ]
  refine wpAnyH_take (i := 7) (v := ?_) rfl (by kernel_rfl) (by kernel_rfl) (by kernel_rfl) (fun _ _ _ h => h) (Or.inl ⟨by rfl, ?_⟩) hHeld ?_
  rotate_left
  · intro w' hSw; try dsimp only at hSw
    go_simp; try (with_reducible rfl)
  try simp only [Act.put, List.getElem_toArray, List.getElem_cons_succ, List.getElem_cons_zero, List.setIfInBounds_toArray, List.set_cons_zero, List.set_cons_succ]
  refine wpAnyH_take (i := 8) (v := ?_) rfl (by kernel_rfl) (by kernel_rfl) (by kernel_rfl) (fun _ _ _ h => h) (Or.inl ⟨by rfl, ?_⟩) hHeld ?_
  rotate_left
  · intro w' hSw; try dsimp only at hSw
    go_simp; try (with_reducible rfl)
  try simp only [Act.put, List.getElem_toArray, List.getElem_cons_succ, List.getElem_cons_zero, List.setIfInBounds_toArray, List.set_cons_zero, List.set_cons_succ]
  refine wpAnyH_take (i := 10) (v := ?_) rfl (by kernel_rfl) (by kernel_rfl) (by kernel_rfl) (fun _ _ _ h => h) (Or.inl ⟨by rfl, ?_⟩) hHeld ?_
  rotate_left
  · intro w' hSw; try dsimp only at hSw
    go_simp; try (with_reducible rfl)
  try simp only [Act.put, List.getElem_toArray, List.getElem_cons_succ, List.getElem_cons_zero, List.setIfInBounds_toArray, List.set_cons_zero, List.set_cons_succ]
  refine wpAnyH_ready (rs := [3, 9]) (by kernel_rfl) (by simp) ?_
  refine AllReadyH.cons rfl (fun K hK => ?_) ?_
  · go_simp
    refine hK.out _ _ ⟨bt hHeld.1 (below_alloc _ _), nres hHeld.2 (below_alloc _ _)⟩ (fun hHeld => ?_)
    clear hK K
    try simp only [Act.put, List.getElem_toArray, List.getElem_cons_succ, List.getElem_cons_zero, List.setIfInBounds_toArray, List.set_cons_zero, List.set_cons_succ]
    have hb1 := below_alloc W0 (.cells #[.int .i64 (-1)] 3)
    have f0 := in_neg W0
    obtain ⟨g0, hg0⟩ : ∃ g, g = W0.heap.size := ⟨_, rfl⟩
    rw [← hg0] at f0 ⊢
    clear hg0
    replace hsz := Nat.le_trans hsz hb1.size
    clear hb1
    generalize W0.alloc (.cells #[.int .i64 (-1)] 3) = W0 at *
    refine wpAnyH_ready (rs := [5, 9]) (by kernel_rfl) (by simp) ?_
    refine AllReadyH.cons rfl (fun K hK => ?_) ?_
    · go_simp
      refine (repeat_any (-1) g0 0 1 L (by omega) (by omega) _ f0).mono ?_
      rintro e W2 ⟨rfl, f1, hb2⟩
      try go_wp2_with fail
      refine hK.out _ _ ⟨bt hHeld.1 hb2, nres hHeld.2 hb2⟩ (fun hHeld => ?_)
      clear hK K
      try simp only [Act.put, List.getElem_toArray, List.getElem_cons_succ, List.getElem_cons_zero, List.setIfInBounds_toArray, List.set_cons_zero, List.set_cons_succ]
      obtain ⟨g1, hg1⟩ : ∃ g, g = W0.heap.size := ⟨_, rfl⟩
      rw [← hg1] at f1 ⊢
      have hg1a : w.heap.size + 1 ≤ g1 := by rw [hg1]; exact hsz
      clear hg1
      replace hsz := Nat.le_trans hsz hb2.size
      clear hb2 f0
      generalize W2 = W0 at *
      refine wpAnyH_ready (rs := [9]) (by kernel_rfl) (by simp) ?_
      refine AllReadyH.cons rfl (fun K hK => ?_) AllReadyH.nil
      go_simp
      refine hK.out _ _ ⟨bt hHeld.1 (below_alloc _ _), nres hHeld.2 (below_alloc _ _)⟩ (fun hHeld => ?_)
      clear hK K
      try simp only [Act.put, List.getElem_toArray, List.getElem_cons_succ, List.getElem_cons_zero, List.setIfInBounds_toArray, List.set_cons_zero, List.set_cons_succ]
      have hb3 := below_alloc W0 (.cells (valsB (List.replicate m false)).toArray 4)
      have f2 := Blk.new W0 4 (valsB (List.replicate m false))
      obtain ⟨g2, hg2⟩ : ∃ g, g = W0.heap.size := ⟨_, rfl⟩
      rw [← hg2] at f2 ⊢
      have hg2a : w.heap.size + 1 ≤ g2 := by rw [hg2]; exact hsz
      clear hg2
      replace f1 := f1.kept hb3
      replace hsz := Nat.le_trans hsz hb3.size
      clear hb3
      generalize W0.alloc (.cells (valsB (List.replicate m false)).toArray 4) = W0 at *
      refine wpAnyH_take (i := 11) (v := ?_) rfl (by kernel_rfl) (by kernel_rfl) (by kernel_rfl) (fun _ _ _ h => h) (Or.inl ⟨by rfl, ?_⟩) hHeld ?_
      rotate_left
      · intro w' hSw; try dsimp only at hSw
        go_simp; try (with_reducible rfl)
      try simp only [Act.put, List.getElem_toArray, List.getElem_cons_succ, List.getElem_cons_zero, List.setIfInBounds_toArray, List.set_cons_zero, List.set_cons_succ]
      obtain ⟨cs, hcl, hres⟩ := hHeld.2
      refine wpAnyH_ready (rs := [12]) (by kernel_rfl) (by simp) ?_
      refine AllReadyH.cons rfl (fun K hK => ?_) AllReadyH.nil
      rw [if_pos (by rfl)]
      refine wp_store_blk 28 (.tmp 6) (.tmp 25) rfl w.heap.size 0 (tabC ⟨some ⟨g1, 0, none⟩, L, L, some ⟨g2, 0, none⟩, m, m, none, 0, 0⟩ (newT p L k m)) rfl rfl hres (by rw [hcl]; exact Nat.le_refl _) (tabSize _ _) (tabOne _ _) ?_
      intro W9 h9 ht9
      rw [whole_row (by rw [hcl]; rfl)] at h9
      refine hK.out _ _ ⟨ht9.below hHeld.1 (Nat.le_refl _), ⟨_, rfl, h9⟩⟩ (fun hHeld => ?_)
      clear hK K
      try simp only [Act.put, List.getElem_toArray, List.getElem_cons_succ, List.getElem_cons_zero, List.setIfInBounds_toArray, List.set_cons_zero, List.set_cons_succ]
      refine wpAnyH_take (i := 13) (v := ?_) rfl (by kernel_rfl) (by kernel_rfl) (by kernel_rfl) (fun _ _ _ h => h) (Or.inl ⟨by rfl, ?_⟩) hHeld ?_
      rotate_left
      · intro w' hSw; try dsimp only at hSw
        go_simp; try (with_reducible rfl)
      try simp only [Act.put, List.getElem_toArray, List.getElem_cons_succ, List.getElem_cons_zero, List.setIfInBounds_toArray, List.set_cons_zero, List.set_cons_succ]
      refine wpAnyH_done (by kernel_rfl) ?_ _
      refine NoPanic.normal ?_
      go_wp2_with fail
      refine ret_tabE Try.results26 rfl h9 rfl rfl ⟨⟨some ⟨g1, 0, none⟩, L, L, some ⟨g2, 0, none⟩, m, m, none, 0, 0⟩, rfl, ?_, rfl, rfl, rfl, hHeld.1⟩
      have e1 := f1.turned ht9 (by omega)
      have e2 := f2.turned ht9 (by omega)
      exact ⟨rfl, owns_of_blkI (by omega) (by simp [newT]) (by show L ≤ maxLen; unfold maxLen; omega) e1, owns_of_blkB (by omega) (by simp [newT]) (by show m ≤ maxLen; unfold maxLen; omega) e2, ⟨rfl, .inl ⟨rfl, rfl⟩⟩, fun i r hi => by simp at hi, fun i j r s a b _ hi => by simp at hi, fun i r a b hi => by simp at hi, by show L ≤ _; omega, by show m ≤ _; omega, by show 0 ≤ _; omega, fun i r hi => by simp at hi⟩
    refine AllReadyH.cons rfl (fun K hK => ?_) AllReadyH.nil
    go_simp
    refine hK.out _ _ ⟨bt hHeld.1 (below_alloc _ _), nres hHeld.2 (below_alloc _ _)⟩ (fun hHeld => ?_)
    clear hK K
    try simp only [Act.put, List.getElem_toArray, List.getElem_cons_succ, List.getElem_cons_zero, List.setIfInBounds_toArray, List.set_cons_zero, List.set_cons_succ]
    have hb3 := below_alloc W0 (.cells (valsB (List.replicate m false)).toArray 4)
    have f2 := Blk.new W0 4 (valsB (List.replicate m false))
    obtain ⟨g2, hg2⟩ : ∃ g, g = W0.heap.size := ⟨_, rfl⟩
    rw [← hg2] at f2 ⊢
    have hg2a : w.heap.size + 1 ≤ g2 := by rw [hg2]; exact hsz
    clear hg2
    replace f0 := f0.below hb3
    replace hsz := Nat.le_trans hsz hb3.size
    clear hb3
    generalize W0.alloc (.cells (valsB (List.replicate m false)).toArray 4) = W0 at *
    refine wpAnyH_ready (rs := [5]) (by kernel_rfl) (by simp) ?_
    refine AllReadyH.cons rfl (fun K hK => ?_) AllReadyH.nil
    go_simp
    refine (repeat_any (-1) g0 0 1 L (by omega) (by omega) _ f0).mono ?_
    rintro e W2 ⟨rfl, f1, hb2⟩
    try go_wp2_with fail
    refine hK.out _ _ ⟨bt hHeld.1 hb2, nres hHeld.2 hb2⟩ (fun hHeld => ?_)
    clear hK K
    try simp only [Act.put, List.getElem_toArray, List.getElem_cons_succ, List.getElem_cons_zero, List.setIfInBounds_toArray, List.set_cons_zero, List.set_cons_succ]
    obtain ⟨g1, hg1⟩ : ∃ g, g = W0.heap.size := ⟨_, rfl⟩
    rw [← hg1] at f1 ⊢
    have hg1a : w.heap.size + 1 ≤ g1 := by rw [hg1]; exact hsz
    clear hg1
    replace f2 := f2.kept hb2
    replace hsz := Nat.le_trans hsz hb2.size
    clear hb2 f0
    generalize W2 = W0 at *
    refine wpAnyH_take (i := 11) (v := ?_) rfl (by kernel_rfl) (by kernel_rfl) (by kernel_rfl) (fun _ _ _ h => h) (Or.inl ⟨by rfl, ?_⟩) hHeld ?_
    rotate_left
    · intro w' hSw; try dsimp only at hSw
      go_simp; try (with_reducible rfl)
    try simp only [Act.put, List.getElem_toArray, List.getElem_cons_succ, List.getElem_cons_zero, List.setIfInBounds_toArray, List.set_cons_zero, List.set_cons_succ]
    obtain ⟨cs, hcl, hres⟩ := hHeld.2
    refine wpAnyH_ready (rs := [12]) (by kernel_rfl) (by simp) ?_
    refine AllReadyH.cons rfl (fun K hK => ?_) AllReadyH.nil
    rw [if_pos (by rfl)]
    refine wp_store_blk 28 (.tmp 6) (.tmp 25) rfl w.heap.size 0 (tabC ⟨some ⟨g1, 0, none⟩, L, L, some ⟨g2, 0, none⟩, m, m, none, 0, 0⟩ (newT p L k m)) rfl rfl hres (by rw [hcl]; exact Nat.le_refl _) (tabSize _ _) (tabOne _ _) ?_
    intro W9 h9 ht9
    rw [whole_row (by rw [hcl]; rfl)] at h9
    refine hK.out _ _ ⟨ht9.below hHeld.1 (Nat.le_refl _), ⟨_, rfl, h9⟩⟩ (fun hHeld => ?_)
    clear hK K
    try simp only [Act.put, List.getElem_toArray, List.getElem_cons_succ, List.getElem_cons_zero, List.setIfInBounds_toArray, List.set_cons_zero, List.set_cons_succ]
    refine wpAnyH_take (i := 13) (v := ?_) rfl (by kernel_rfl) (by kernel_rfl) (by kernel_rfl) (fun _ _ _ h => h) (Or.inl ⟨by rfl, ?_⟩) hHeld ?_
    rotate_left
    · intro w' hSw; try dsimp only at hSw
      go_simp; try (with_reducible rfl)
    try simp only [Act.put, List.getElem_toArray, List.getElem_cons_succ, List.getElem_cons_zero, List.setIfInBounds_toArray, List.set_cons_zero, List.set_cons_succ]
    refine wpAnyH_done (by kernel_rfl) ?_ _
    refine NoPanic.normal ?_
    go_wp2_with fail
    refine ret_tabE Try.results26 rfl h9 rfl rfl ⟨⟨some ⟨g1, 0, none⟩, L, L, some ⟨g2, 0, none⟩, m, m, none, 0, 0⟩, rfl, ?_, rfl, rfl, rfl, hHeld.1⟩
    have e1 := f1.turned ht9 (by omega)
    have e2 := f2.turned ht9 (by omega)
    exact ⟨rfl, owns_of_blkI (by omega) (by simp [newT]) (by show L ≤ maxLen; unfold maxLen; omega) e1, owns_of_blkB (by omega) (by simp [newT]) (by show m ≤ maxLen; unfold maxLen; omega) e2, ⟨rfl, .inl ⟨rfl, rfl⟩⟩, fun i r hi => by simp at hi, fun i j r s a b _ hi => by simp at hi, fun i r a b hi => by simp at hi, by show L ≤ _; omega, by show m ≤ _; omega, by show 0 ≤ _; omega, fun i r hi => by simp at hi⟩
  refine AllReadyH.cons rfl (fun K hK => ?_) AllReadyH.nil
  go_simp
  refine hK.out _ _ ⟨bt hHeld.1 (below_alloc _ _), nres hHeld.2 (below_alloc _ _)⟩ (fun hHeld => ?_)
  clear hK K
  try simp only [Act.put, List.getElem_toArray, List.getElem_cons_succ, List.getElem_cons_zero, List.setIfInBounds_toArray, List.set_cons_zero, List.set_cons_succ]
  have hb3 := below_alloc W0 (.cells (valsB (List.replicate m false)).toArray 4)
  have f2 := Blk.new W0 4 (valsB (List.replicate m false))
  obtain ⟨g2, hg2⟩ : ∃ g, g = W0.heap.size := ⟨_, rfl⟩
  rw [← hg2] at f2 ⊢
  have hg2a : w.heap.size + 1 ≤ g2 := by rw [hg2]; exact hsz
  clear hg2
  replace hsz := Nat.le_trans hsz hb3.size
  clear hb3
  generalize W0.alloc (.cells (valsB (List.replicate m false)).toArray 4) = W0 at *
  refine wpAnyH_ready (rs := [3]) (by kernel_rfl) (by simp) ?_
  refine AllReadyH.cons rfl (fun K hK => ?_) AllReadyH.nil
  go_simp
  refine hK.out _ _ ⟨bt hHeld.1 (below_alloc _ _), nres hHeld.2 (below_alloc _ _)⟩ (fun hHeld => ?_)
  clear hK K
  try simp only [Act.put, List.getElem_toArray, List.getElem_cons_succ, List.getElem_cons_zero, List.setIfInBounds_toArray, List.set_cons_zero, List.set_cons_succ]
  have hb1 := below_alloc W0 (.cells #[.int .i64 (-1)] 3)
  have f0 := in_neg W0
  obtain ⟨g0, hg0⟩ : ∃ g, g = W0.heap.size := ⟨_, rfl⟩
  rw [← hg0] at f0 ⊢
  clear hg0
  replace f2 := f2.kept hb1
  replace hsz := Nat.le_trans hsz hb1.size
  clear hb1
  generalize W0.alloc (.cells #[.int .i64 (-1)] 3) = W0 at *
  refine wpAnyH_ready (rs := [5]) (by kernel_rfl) (by simp) ?_
  refine AllReadyH.cons rfl (fun K hK => ?_) AllReadyH.nil
  go_simp
  refine (repeat_any (-1) g0 0 1 L (by omega) (by omega) _ f0).mono ?_
  rintro e W2 ⟨rfl, f1, hb2⟩
  try go_wp2_with fail
  refine hK.out _ _ ⟨bt hHeld.1 hb2, nres hHeld.2 hb2⟩ (fun hHeld => ?_)
  clear hK K
  try simp only [Act.put, List.getElem_toArray, List.getElem_cons_succ, List.getElem_cons_zero, List.setIfInBounds_toArray, List.set_cons_zero, List.set_cons_succ]
  obtain ⟨g1, hg1⟩ : ∃ g, g = W0.heap.size := ⟨_, rfl⟩
  rw [← hg1] at f1 ⊢
  have hg1a : w.heap.size + 1 ≤ g1 := by rw [hg1]; exact hsz
  clear hg1
  replace f2 := f2.kept hb2
  replace hsz := Nat.le_trans hsz hb2.size
  clear hb2 f0
  generalize W2 = W0 at *
  refine wpAnyH_take (i := 11) (v := ?_) rfl (by kernel_rfl) (by kernel_rfl) (by kernel_rfl) (fun _ _ _ h => h) (Or.inl ⟨by rfl, ?_⟩) hHeld ?_
  rotate_left
  · intro w' hSw; try dsimp only at hSw
    go_simp; try (with_reducible rfl)
  try simp only [Act.put, List.getElem_toArray, List.getElem_cons_succ, List.getElem_cons_zero, List.setIfInBounds_toArray, List.set_cons_zero, List.set_cons_succ]
  obtain ⟨cs, hcl, hres⟩ := hHeld.2
  refine wpAnyH_ready (rs := [12]) (by kernel_rfl) (by simp) ?_
  refine AllReadyH.cons rfl (fun K hK => ?_) AllReadyH.nil
  rw [if_pos (by rfl)]
  refine wp_store_blk 28 (.tmp 6) (.tmp 25) rfl w.heap.size 0 (tabC ⟨some ⟨g1, 0, none⟩, L, L, some ⟨g2, 0, none⟩, m, m, none, 0, 0⟩ (newT p L k m)) rfl rfl hres (by rw [hcl]; exact Nat.le_refl _) (tabSize _ _) (tabOne _ _) ?_
  intro W9 h9 ht9
  rw [whole_row (by rw [hcl]; rfl)] at h9
  refine hK.out _ _ ⟨ht9.below hHeld.1 (Nat.le_refl _), ⟨_, rfl, h9⟩⟩ (fun hHeld => ?_)
  clear hK K
  try simp only [Act.put, List.getElem_toArray, List.getElem_cons_succ, List.getElem_cons_zero, List.setIfInBounds_toArray, List.set_cons_zero, List.set_cons_succ]
  refine wpAnyH_take (i := 13) (v := ?_) rfl (by kernel_rfl) (by kernel_rfl) (by kernel_rfl) (fun _ _ _ h => h) (Or.inl ⟨by rfl, ?_⟩) hHeld ?_
  rotate_left
  · intro w' hSw; try dsimp only at hSw
    go_simp; try (with_reducible rfl)
  try simp only [Act.put, List.getElem_toArray, List.getElem_cons_succ, List.getElem_cons_zero, List.setIfInBounds_toArray, List.set_cons_zero, List.set_cons_succ]
  refine wpAnyH_done (by kernel_rfl) ?_ _
  refine NoPanic.normal ?_
  go_wp2_with fail
  refine ret_tabE Try.results26 rfl h9 rfl rfl ⟨⟨some ⟨g1, 0, none⟩, L, L, some ⟨g2, 0, none⟩, m, m, none, 0, 0⟩, rfl, ?_, rfl, rfl, rfl, hHeld.1⟩
  have e1 := f1.turned ht9 (by omega)
  have e2 := f2.turned ht9 (by omega)
  exact ⟨rfl, owns_of_blkI (by omega) (by simp [newT]) (by show L ≤ maxLen; unfold maxLen; omega) e1, owns_of_blkB (by omega) (by simp [newT]) (by show m ≤ maxLen; unfold maxLen; omega) e2, ⟨rfl, .inl ⟨rfl, rfl⟩⟩, fun i r hi => by simp at hi, fun i j r s a b _ hi => by simp at hi, fun i r a b hi => by simp at hi, by show L ≤ _; omega, by show m ≤ _; omega, by show 0 ≤ _; omega, fun i r hi => by simp at hi⟩
end Go.Proofs.Ythibaefoioeghaa
