/-
  What New and Parts answer.
-/
import Derived.Test.YtpikaagdiafieaaMjSame
namespace Go.Proofs.Ytpikaagdiafieaa
open Go.RowKit
theorem make_bools (n : Nat) (hn : n ≤ 1000000) (W : World) : (Instr.makeSlice 22 (.int .i64 (n : Int)) (.int .i64 (n : Int))).run Try.prog W = .ok (.slice (some ⟨W.heap.size, 0, none⟩) n n) (W.alloc (.cells (valsB (List.replicate n false)).toArray 4)) := by
  obtain ⟨i0, hi, hz0, hz1, hz2⟩ := info_parts info4
  have := run_make (P := Try.prog) W 22 4 i0 (.bool false) Try.underlying22 hi hz0 .i64 .i64 (n : Int) (n : Int) (by omega) (by omega) (by rw [hz2]; omega) (by omega)
  rw [this, hz1]
  have e : madeCells (Value.bool false).cells ((n : Int).toNat * 1) = (valsB (List.replicate n false)).toArray := by
    apply Array.toList_inj.1
    rw [show (Value.bool false).cells = #[Value.bool false] from rfl, toList_madeCells_one]
    simp [valsB]
  rw [e]
  simp
theorem owns_of_blkI {w : World} {B g n : Nat} {e : TypeId} {xs : List Int} (hB : B ≤ g) (hn : xs.length = n) (hm : n ≤ maxLen) (h : Blk w g e (valsI xs)) : w.ownsRow B e 1 (.slice (some ⟨g, 0, none⟩) n n) n (valsI xs) :=
  ⟨by rw [valsI_length]; omega, .inr ⟨g, n, (valsI xs).toArray, rfl, hB, h, Nat.le_refl _, hm, by simp [valsI_length, hn], by rw [List.take_of_length_le (by simp [valsI_length]; omega)]⟩⟩
theorem owns_of_blkB {w : World} {B g n : Nat} {e : TypeId} {xs : List Bool} (hB : B ≤ g) (hn : xs.length = n) (hm : n ≤ maxLen) (h : Blk w g e (valsB xs)) : w.ownsRow B e 1 (.slice (some ⟨g, 0, none⟩) n n) n (valsB xs) :=
  ⟨by rw [valsB_length]; omega, .inr ⟨g, n, (valsB xs).toArray, rfl, hB, h, Nat.le_refl _, hm, by simp [valsB_length, hn], by rw [List.take_of_length_le (by simp [valsB_length]; omega)]⟩⟩
theorem make_zeros (n : Nat) (hn : n ≤ 1000000) (W : World) : (Instr.makeSlice 23 (.int .i64 (n : Int)) (.int .i64 (n : Int))).run Try.prog W = .ok (.slice (some ⟨W.heap.size, 0, none⟩) n n) (W.alloc (.cells (valsI (List.replicate n 0)).toArray 2)) := by
  obtain ⟨i0, hi, hz0, hz1, hz2⟩ := info_parts info2
  have := run_make (P := Try.prog) W 23 2 i0 (.int .i64 0) Try.underlying23 hi hz0 .i64 .i64 (n : Int) (n : Int) (by omega) (by omega) (by rw [hz2]; omega) (by omega)
  rw [this, hz1]
  have e : madeCells (Value.int .i64 0).cells ((n : Int).toNat * 1) = (valsI (List.replicate n 0)).toArray := by
    apply Array.toList_inj.1
    rw [show (Value.int .i64 0).cells = #[Value.int .i64 0] from rfl, toList_madeCells_one]
    simp [valsI]
  rw [e]
  simp
theorem nres {W W' : World} {g : Nat} (h : ∃ cs : List Value, cs.length = 3 ∧ Blk W g 25 cs) (hb : Below W.heap.size W W') : ∃ cs : List Value, cs.length = 3 ∧ Blk W' g 25 cs := by
  obtain ⟨cs, hl, hr⟩ := h
  exact ⟨cs, hl, hr.kept hb⟩
/-- What New answers. -/
def newR (n : Int) : MS × Int := if 16 ≤ n ∧ n ≤ 256 then (newMS n.toNat, 0) else (MS.zero, 20)
set_option linter.unusedSimpArgs false in
set_option maxRecDepth 100000 in
set_option maxHeartbeats 1000000 in
theorem new_any (i : Int) (w : World) : Calls Try.prog 9 #[.int .i64 i] w (ResS w (newR i)) := by
  have r0 := Blk.new' w 25 #[.slice none 0 0, .slice none 0 0, .int .i64 0]
  have hb0 := below_alloc w (.cells #[.slice none 0 0, .slice none 0 0, .int .i64 0] 25)
  by_cases hn : 16 ≤ i ∧ i ≤ 256
  · obtain ⟨n, rfl⟩ : ∃ n : Nat, i = (n : Int) := ⟨i.toNat, by omega⟩
    have E : Hid (newR (n : Int) = (newMS n, 0)) := by show _ = _; unfold newR; rw [if_pos hn, Int.toNat_natCast]
    have hmk := make_bools n (by omega)
    have hmz := make_zeros n (by omega)
    go_enter Try.func9, Try.ntmps9
    go_upto_region 3 with (go_at_call 44; refine (within_yes _ hn.1 hn.2).mono ?_; rintro e w' ⟨rfl, hw'⟩; have hw3 := hw'.symm; subst hw3; clear hw')
    generalize hW : w.alloc (.cells #[.slice none 0 0, .slice none 0 0, .int .i64 0] 25) = W0 at *
    have hsz : w.heap.size + 1 ≤ W0.heap.size := by rw [← hW, World.size_alloc]; exact Nat.le_refl _
    clear hW
    refine wp_region_noPanic ?_
    refine wp_region_held_drew (S := fun W => Below w.heap.size w W ∧ ∃ cs : List Value, cs.length = 3 ∧ Blk W w.heap.size 25 cs) (by kernel_rfl) ⟨hb0.drew, ⟨_, rfl, r0.drew⟩⟩ (fun hHeld => ?_)
    replace hsz : w.heap.size + 1 ≤ W0.drew.heap.size := hsz
    clear hb0 r0
    generalize W0.drew = W0 at *
    refine wpAnyH_take (i := 0) (v := ?_) rfl (by kernel_rfl) (by kernel_rfl) (by kernel_rfl) (fun _ _ _ h => h) (Or.inl ⟨by rfl, ?_⟩) hHeld ?_
    rotate_left
    · intro w' hSw; try dsimp only at hSw
      go_simp; try (with_reducible rfl)
    try simp only [Act.put, List.getElem_toArray, List.getElem_cons_succ, List.getElem_cons_zero, List.setIfInBounds_toArray, List.set_cons_zero, List.set_cons_succ]
    refine wpAnyH_take (i := 2) (v := ?_) rfl (by kernel_rfl) (by kernel_rfl) (by kernel_rfl) (fun _ _ _ h => h) (Or.inl ⟨by rfl, ?_⟩) hHeld ?_
    rotate_left
    · intro w' hSw; try dsimp only at hSw
      go_simp; try (with_reducible rfl)
    try simp only [Act.put, List.getElem_toArray, List.getElem_cons_succ, List.getElem_cons_zero, List.setIfInBounds_toArray, List.set_cons_zero, List.set_cons_succ]
    refine wpAnyH_ready (rs := [1, 3]) (by kernel_rfl) (by simp) ?_
    refine AllReadyH.cons rfl (fun K hK => ?_) ?_
    · go_simp
      refine hK.out _ _ ⟨bt hHeld.1 (below_alloc _ _), nres hHeld.2 (below_alloc _ _)⟩ (fun hHeld => ?_)
      clear hK K
      try simp only [Act.put, List.getElem_toArray, List.getElem_cons_succ, List.getElem_cons_zero, List.setIfInBounds_toArray, List.set_cons_zero, List.set_cons_succ]
      have hb_ := below_alloc W0 (.cells (valsB (List.replicate n false)).toArray 4)
      have f1 := Blk.new W0 4 (valsB (List.replicate n false))
      obtain ⟨g1, hg_⟩ : ∃ g, g = W0.heap.size := ⟨_, rfl⟩
      rw [← hg_] at f1 ⊢
      have g1a : w.heap.size + 1 ≤ g1 := by rw [hg_]; exact hsz
      clear hg_
      replace hsz := Nat.le_trans hsz hb_.size
      clear hb_
      generalize W0.alloc (.cells (valsB (List.replicate n false)).toArray 4) = W0 at *
      refine wpAnyH_ready (rs := [3]) (by kernel_rfl) (by simp) ?_
      refine AllReadyH.cons rfl (fun K hK => ?_) AllReadyH.nil
      go_simp
      refine hK.out _ _ ⟨bt hHeld.1 (below_alloc _ _), nres hHeld.2 (below_alloc _ _)⟩ (fun hHeld => ?_)
      clear hK K
      try simp only [Act.put, List.getElem_toArray, List.getElem_cons_succ, List.getElem_cons_zero, List.setIfInBounds_toArray, List.set_cons_zero, List.set_cons_succ]
      have hb_ := below_alloc W0 (.cells (valsI (List.replicate n 0)).toArray 2)
      have f2 := Blk.new W0 2 (valsI (List.replicate n 0))
      obtain ⟨g2, hg_⟩ : ∃ g, g = W0.heap.size := ⟨_, rfl⟩
      rw [← hg_] at f2 ⊢
      have g2a : w.heap.size + 1 ≤ g2 := by rw [hg_]; exact hsz
      clear hg_
      replace f1 := f1.kept hb_
      replace hsz := Nat.le_trans hsz hb_.size
      clear hb_
      generalize W0.alloc (.cells (valsI (List.replicate n 0)).toArray 2) = W0 at *
      refine wpAnyH_take (i := 4) (v := ?_) rfl (by kernel_rfl) (by kernel_rfl) (by kernel_rfl) (fun _ _ _ h => h) (Or.inl ⟨by rfl, ?_⟩) hHeld ?_
      rotate_left
      · intro w' hSw; try dsimp only at hSw
        go_simp; try (with_reducible rfl)
      try simp only [Act.put, List.getElem_toArray, List.getElem_cons_succ, List.getElem_cons_zero, List.setIfInBounds_toArray, List.set_cons_zero, List.set_cons_succ]
      obtain ⟨cs, hcl, hres⟩ := hHeld.2
      refine wpAnyH_ready (rs := [5]) (by kernel_rfl) (by simp) ?_
      refine AllReadyH.cons rfl (fun K hK => ?_) AllReadyH.nil
      rw [if_pos (by rfl)]
      refine wp_store_blk 25 (.tmp 2) (.tmp 12) rfl w.heap.size 0 [.slice (some ⟨g1, 0, none⟩) n n, .slice (some ⟨g2, 0, none⟩) n n, .int .i64 0] rfl rfl hres (by rw [hcl]; exact Nat.le_refl _) (msSize ⟨some ⟨g1, 0, none⟩, n, n, some ⟨g2, 0, none⟩, n, n⟩ (newMS n)) (msOne ⟨some ⟨g1, 0, none⟩, n, n, some ⟨g2, 0, none⟩, n, n⟩ (newMS n)) ?_
      intro W9 h9 ht9
      rw [whole_row (by rw [hcl]; rfl)] at h9
      refine hK.out _ _ ⟨ht9.below hHeld.1 (Nat.le_refl _), ⟨_, rfl, h9⟩⟩ (fun hHeld => ?_)
      clear hK K
      try simp only [Act.put, List.getElem_toArray, List.getElem_cons_succ, List.getElem_cons_zero, List.setIfInBounds_toArray, List.set_cons_zero, List.set_cons_succ]
      refine wpAnyH_take (i := 6) (v := ?_) rfl (by kernel_rfl) (by kernel_rfl) (by kernel_rfl) (fun _ _ _ h => h) (Or.inl ⟨by rfl, ?_⟩) hHeld ?_
      rotate_left
      · intro w' hSw; try dsimp only at hSw
        go_simp; try (with_reducible rfl)
      try simp only [Act.put, List.getElem_toArray, List.getElem_cons_succ, List.getElem_cons_zero, List.setIfInBounds_toArray, List.set_cons_zero, List.set_cons_succ]
      refine wpAnyH_done (by kernel_rfl) ?_ _
      refine NoPanic.normal ?_
      go_wp2_with fail
      have h9' : Blk W9 w.heap.size 25 (SV.cells ⟨some ⟨g1, 0, none⟩, n, n, some ⟨g2, 0, none⟩, n, n⟩ (newMS n)) := h9
      refine ret_msE Try.results9 rfl h9' rfl rfl ?_
      rw [E.out]
      have e1 := f1.turned ht9 (by omega)
      have e2 := f2.turned ht9 (by omega)
      exact ⟨⟨some ⟨g1, 0, none⟩, n, n, some ⟨g2, 0, none⟩, n, n⟩, rfl, ⟨owns_of_blkB (by omega) (by simp [newMS]) (by show n ≤ maxLen; unfold maxLen; omega) e1, owns_of_blkI (by omega) (by simp [newMS]) (by show n ≤ maxLen; unfold maxLen; omega) e2, by show n ≤ _; omega, by show n ≤ _; omega⟩, hHeld.1⟩
    refine AllReadyH.cons rfl (fun K hK => ?_) AllReadyH.nil
    go_simp
    refine hK.out _ _ ⟨bt hHeld.1 (below_alloc _ _), nres hHeld.2 (below_alloc _ _)⟩ (fun hHeld => ?_)
    clear hK K
    try simp only [Act.put, List.getElem_toArray, List.getElem_cons_succ, List.getElem_cons_zero, List.setIfInBounds_toArray, List.set_cons_zero, List.set_cons_succ]
    have hb_ := below_alloc W0 (.cells (valsI (List.replicate n 0)).toArray 2)
    have f2 := Blk.new W0 2 (valsI (List.replicate n 0))
    obtain ⟨g2, hg_⟩ : ∃ g, g = W0.heap.size := ⟨_, rfl⟩
    rw [← hg_] at f2 ⊢
    have g2a : w.heap.size + 1 ≤ g2 := by rw [hg_]; exact hsz
    clear hg_
    replace hsz := Nat.le_trans hsz hb_.size
    clear hb_
    generalize W0.alloc (.cells (valsI (List.replicate n 0)).toArray 2) = W0 at *
    refine wpAnyH_ready (rs := [1]) (by kernel_rfl) (by simp) ?_
    refine AllReadyH.cons rfl (fun K hK => ?_) AllReadyH.nil
    go_simp
    refine hK.out _ _ ⟨bt hHeld.1 (below_alloc _ _), nres hHeld.2 (below_alloc _ _)⟩ (fun hHeld => ?_)
    clear hK K
    try simp only [Act.put, List.getElem_toArray, List.getElem_cons_succ, List.getElem_cons_zero, List.setIfInBounds_toArray, List.set_cons_zero, List.set_cons_succ]
    have hb_ := below_alloc W0 (.cells (valsB (List.replicate n false)).toArray 4)
    have f1 := Blk.new W0 4 (valsB (List.replicate n false))
    obtain ⟨g1, hg_⟩ : ∃ g, g = W0.heap.size := ⟨_, rfl⟩
    rw [← hg_] at f1 ⊢
    have g1a : w.heap.size + 1 ≤ g1 := by rw [hg_]; exact hsz
    clear hg_
    replace f2 := f2.kept hb_
    replace hsz := Nat.le_trans hsz hb_.size
    clear hb_
    generalize W0.alloc (.cells (valsB (List.replicate n false)).toArray 4) = W0 at *
    refine wpAnyH_take (i := 4) (v := ?_) rfl (by kernel_rfl) (by kernel_rfl) (by kernel_rfl) (fun _ _ _ h => h) (Or.inl ⟨by rfl, ?_⟩) hHeld ?_
    rotate_left
    · intro w' hSw; try dsimp only at hSw
      go_simp; try (with_reducible rfl)
    try simp only [Act.put, List.getElem_toArray, List.getElem_cons_succ, List.getElem_cons_zero, List.setIfInBounds_toArray, List.set_cons_zero, List.set_cons_succ]
    obtain ⟨cs, hcl, hres⟩ := hHeld.2
    refine wpAnyH_ready (rs := [5]) (by kernel_rfl) (by simp) ?_
    refine AllReadyH.cons rfl (fun K hK => ?_) AllReadyH.nil
    rw [if_pos (by rfl)]
    refine wp_store_blk 25 (.tmp 2) (.tmp 12) rfl w.heap.size 0 [.slice (some ⟨g1, 0, none⟩) n n, .slice (some ⟨g2, 0, none⟩) n n, .int .i64 0] rfl rfl hres (by rw [hcl]; exact Nat.le_refl _) (msSize ⟨some ⟨g1, 0, none⟩, n, n, some ⟨g2, 0, none⟩, n, n⟩ (newMS n)) (msOne ⟨some ⟨g1, 0, none⟩, n, n, some ⟨g2, 0, none⟩, n, n⟩ (newMS n)) ?_
    intro W9 h9 ht9
    rw [whole_row (by rw [hcl]; rfl)] at h9
    refine hK.out _ _ ⟨ht9.below hHeld.1 (Nat.le_refl _), ⟨_, rfl, h9⟩⟩ (fun hHeld => ?_)
    clear hK K
    try simp only [Act.put, List.getElem_toArray, List.getElem_cons_succ, List.getElem_cons_zero, List.setIfInBounds_toArray, List.set_cons_zero, List.set_cons_succ]
    refine wpAnyH_take (i := 6) (v := ?_) rfl (by kernel_rfl) (by kernel_rfl) (by kernel_rfl) (fun _ _ _ h => h) (Or.inl ⟨by rfl, ?_⟩) hHeld ?_
    rotate_left
    · intro w' hSw; try dsimp only at hSw
      go_simp; try (with_reducible rfl)
    try simp only [Act.put, List.getElem_toArray, List.getElem_cons_succ, List.getElem_cons_zero, List.setIfInBounds_toArray, List.set_cons_zero, List.set_cons_succ]
    refine wpAnyH_done (by kernel_rfl) ?_ _
    refine NoPanic.normal ?_
    go_wp2_with fail
    have h9' : Blk W9 w.heap.size 25 (SV.cells ⟨some ⟨g1, 0, none⟩, n, n, some ⟨g2, 0, none⟩, n, n⟩ (newMS n)) := h9
    refine ret_msE Try.results9 rfl h9' rfl rfl ?_
    rw [E.out]
    have e1 := f1.turned ht9 (by omega)
    have e2 := f2.turned ht9 (by omega)
    exact ⟨⟨some ⟨g1, 0, none⟩, n, n, some ⟨g2, 0, none⟩, n, n⟩, rfl, ⟨owns_of_blkB (by omega) (by simp [newMS]) (by show n ≤ maxLen; unfold maxLen; omega) e1, owns_of_blkI (by omega) (by simp [newMS]) (by show n ≤ maxLen; unfold maxLen; omega) e2, by show n ≤ _; omega, by show n ≤ _; omega⟩, hHeld.1⟩
  · have E : Hid (newR i = (MS.zero, 20)) := by show _ = _; unfold newR; rw [if_neg hn]
    go_enter Try.func9, Try.ntmps9
    go_wp2_with (first
      | (go_at_call 44; refine (within_no _ hn).mono ?_; rintro e w' ⟨rfl, hw'⟩; have hw3 := hw'.symm; subst hw3; clear hw')
      | (guard_target = wpList _ _ _ (Oper.mk _ (Op.store 25 (Operand.tmp 2) _) _ _ _ _ :: _) _ _; refine wpList_store_blk rfl 25 (.tmp 2) (.tmp 7) rfl _ _ [.slice none 0 0, .slice none 0 0, .int .i64 0] rfl rfl r0 (by simp) (msSize ⟨none, 0, 0, none, 0, 0⟩ MS.zero) (msOne ⟨none, 0, 0, none, 0, 0⟩ MS.zero) ?_; intro w9 h9 ht9))
    first
      | (refine ret_msE Try.results9 rfl (show Blk _ _ _ (SV.cells ⟨none, 0, 0, none, 0, 0⟩ MS.zero) from h9) rfl rfl ?_
         rw [E.out]
         exact ⟨_, rfl, ownS_zero _ _, ht9.below hb0 (by omega)⟩)
      | (refine ret_msE Try.results9 rfl (show Blk _ _ _ (SV.cells ⟨none, 0, 0, none, 0, 0⟩ MS.zero) from r0) rfl rfl ?_
         rw [E.out]
         exact ⟨_, rfl, ownS_zero _ _, hb0⟩)
def partsI (n : Int) : Int := if 16 ≤ n ∧ n ≤ 256 then (n + 63) / 64 else 0
theorem parts_any (i : Int) (w : World) : Calls Try.prog 31 #[.int .i64 i] w fun e w' => e = .returned (.int .i64 (partsI i)) ∧ w' = w := by
  by_cases hn : 16 ≤ i ∧ i ≤ 256
  · have E : Hid (partsI i = (i + 63) / 64) := by show _ = _; unfold partsI; rw [if_pos hn]
    obtain ⟨n, rfl⟩ : ∃ n : Nat, i = (n : Int) := ⟨i.toNat, by omega⟩
    go_enter Try.func31, Try.ntmps31
    go_wp2_with (go_at_call 44; refine (within_yes _ hn.1 hn.2).mono ?_; rintro e w' ⟨rfl, hw'⟩; have hw3 := hw'.symm; subst hw3; clear hw')
    go_ret
    refine ⟨ret_int ?_, rfl⟩
    rw [E.out]
    omega
  · have E : Hid (partsI i = 0) := by show _ = _; unfold partsI; rw [if_neg hn]
    go_enter Try.func31, Try.ntmps31
    go_wp2_with (go_at_call 44; refine (within_no _ hn).mono ?_; rintro e w' ⟨rfl, hw'⟩; have hw3 := hw'.symm; subst hw3; clear hw')
    go_ret
    rw [E.out]
    exact ⟨rfl, rfl⟩
end Go.Proofs.Ytpikaagdiafieaa
