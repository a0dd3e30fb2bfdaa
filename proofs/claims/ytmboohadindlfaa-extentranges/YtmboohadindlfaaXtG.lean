/-
  What couldBeOne and the reference's goes answer.
-/
import Derived.Test.YtmboohadindlfaaXtA
import Derived.Deep.Cut
namespace Go.Proofs.Ytmboohadindlfaa
open Go.RowKit
theorem below_al {a w : World} (h : Below a.heap.size a w) (o : Obj) : Below a.heap.size a (w.alloc o) := h.alloc h.size o
set_option linter.unusedSimpArgs false in
set_option linter.unusedVariables false in
set_option maxRecDepth 100000 in
set_option maxHeartbeats 4000000 in
theorem go_any (a b : Ext) (w : World) (ha : oneB a = true) (hb : oneB b = true) : Calls Try.prog 40 #[a.val, b.val] w fun x w' => x = .returned (.bool (goB a b)) ∧ Below w.heap.size w w' := by
  obtain ⟨al, an, ap⟩ := a
  obtain ⟨bl, bn, bp⟩ := b
  have ha' := oneB_iff.1 ha
  have hb' := oneB_iff.1 hb
  dsimp only at ha' hb'
  obtain ⟨h1, h2, h3, h4, h5, h6⟩ := ha'
  obtain ⟨g1, g2, g3, g4, g5, g6⟩ := hb'
  have k1 := (Blk.new' w 31 #[.int .i64 al, .int .i64 an, .int .i64 ap]).alloc (.cells #[.int .i64 bl, .int .i64 bn, .int .i64 bp] 31)
  have k2 := Blk.new' (w.alloc (.cells #[.int .i64 al, .int .i64 an, .int .i64 ap] 31)) 31 #[.int .i64 bl, .int .i64 bn, .int .i64 bp]
  rw [World.size_alloc] at k2
  have hw : IntKind.i64.wrap (ap + an) = ap + an := by rw [IntKind.wrap_i64]; omega
  go_enter Try.func40, Try.ntmps40
  go_upto_region 1 with fail
  refine wp_region_noPanic ?_
  refine wp_region_held_drew (S := fun X => Blk X w.heap.size 31 [.int .i64 al, .int .i64 an, .int .i64 ap] ∧ Blk X (w.heap.size + 1) 31 [.int .i64 bl, .int .i64 bn, .int .i64 bp]) (by kernel_rfl) ⟨k1.drew, k2.drew⟩ (fun hHeld => ?_)
  refine wpAnyH_take (i := 0) (v := ?_) rfl (by kernel_rfl) (by kernel_rfl) (by kernel_rfl) (fun _ _ _ h => h) (Or.inl ⟨by rfl, ?_⟩) hHeld ?_
  rotate_left
  · intro w' hSw; try dsimp only at hSw
    have c0 := hSw.1.cell' (i := 0) rfl
    have c1 := hSw.1.cell' (i := 1) rfl
    have c2 := hSw.1.cell' (i := 2) rfl
    have d0 := hSw.2.cell' (i := 0) rfl
    have d1 := hSw.2.cell' (i := 1) rfl
    have d2 := hSw.2.cell' (i := 2) rfl
    go_simp; try (with_reducible rfl)
  try simp only [Act.put, List.getElem_toArray, List.getElem_cons_succ, List.getElem_cons_zero, List.setIfInBounds_toArray, List.set_cons_zero, List.set_cons_succ]
  refine wpAnyH_take (i := 2) (v := ?_) rfl (by kernel_rfl) (by kernel_rfl) (by kernel_rfl) (fun _ _ _ h => h) (Or.inl ⟨by rfl, ?_⟩) hHeld ?_
  rotate_left
  · intro w' hSw; try dsimp only at hSw
    have c0 := hSw.1.cell' (i := 0) rfl
    have c1 := hSw.1.cell' (i := 1) rfl
    have c2 := hSw.1.cell' (i := 2) rfl
    have d0 := hSw.2.cell' (i := 0) rfl
    have d1 := hSw.2.cell' (i := 1) rfl
    have d2 := hSw.2.cell' (i := 2) rfl
    go_simp; try (with_reducible rfl)
  try simp only [Act.put, List.getElem_toArray, List.getElem_cons_succ, List.getElem_cons_zero, List.setIfInBounds_toArray, List.set_cons_zero, List.set_cons_succ]
  refine wpAnyH_take (i := 3) (v := ?_) rfl (by kernel_rfl) (by kernel_rfl) (by kernel_rfl) (fun _ _ _ h => h) (Or.inl ⟨by rfl, ?_⟩) hHeld ?_
  rotate_left
  · intro w' hSw; try dsimp only at hSw
    have c0 := hSw.1.cell' (i := 0) rfl
    have c1 := hSw.1.cell' (i := 1) rfl
    have c2 := hSw.1.cell' (i := 2) rfl
    have d0 := hSw.2.cell' (i := 0) rfl
    have d1 := hSw.2.cell' (i := 1) rfl
    have d2 := hSw.2.cell' (i := 2) rfl
    go_simp; try (with_reducible rfl)
  try simp only [Act.put, List.getElem_toArray, List.getElem_cons_succ, List.getElem_cons_zero, List.setIfInBounds_toArray, List.set_cons_zero, List.set_cons_succ]
  refine wpAnyH_take (i := 4) (v := ?_) rfl (by kernel_rfl) (by kernel_rfl) (by kernel_rfl) (fun _ _ _ h => h) (Or.inl ⟨by rfl, ?_⟩) hHeld ?_
  rotate_left
  · intro w' hSw; try dsimp only at hSw
    have c0 := hSw.1.cell' (i := 0) rfl
    have c1 := hSw.1.cell' (i := 1) rfl
    have c2 := hSw.1.cell' (i := 2) rfl
    have d0 := hSw.2.cell' (i := 0) rfl
    have d1 := hSw.2.cell' (i := 1) rfl
    have d2 := hSw.2.cell' (i := 2) rfl
    go_simp; try (with_reducible rfl)
  try simp only [Act.put, List.getElem_toArray, List.getElem_cons_succ, List.getElem_cons_zero, List.setIfInBounds_toArray, List.set_cons_zero, List.set_cons_succ]
  refine wpAnyH_take (i := 5) (v := ?_) rfl (by kernel_rfl) (by kernel_rfl) (by kernel_rfl) (fun _ _ _ h => h) (Or.inl ⟨by rfl, ?_⟩) hHeld ?_
  rotate_left
  · intro w' hSw; try dsimp only at hSw
    have c0 := hSw.1.cell' (i := 0) rfl
    have c1 := hSw.1.cell' (i := 1) rfl
    have c2 := hSw.1.cell' (i := 2) rfl
    have d0 := hSw.2.cell' (i := 0) rfl
    have d1 := hSw.2.cell' (i := 1) rfl
    have d2 := hSw.2.cell' (i := 2) rfl
    go_simp; try (with_reducible rfl)
  try simp only [Act.put, List.getElem_toArray, List.getElem_cons_succ, List.getElem_cons_zero, List.setIfInBounds_toArray, List.set_cons_zero, List.set_cons_succ]
  refine wpAnyH_take (i := 6) (v := ?_) rfl (by kernel_rfl) (by kernel_rfl) (by kernel_rfl) (fun _ _ _ h => h) (Or.inl ⟨by rfl, ?_⟩) hHeld ?_
  rotate_left
  · intro w' hSw; try dsimp only at hSw
    have c0 := hSw.1.cell' (i := 0) rfl
    have c1 := hSw.1.cell' (i := 1) rfl
    have c2 := hSw.1.cell' (i := 2) rfl
    have d0 := hSw.2.cell' (i := 0) rfl
    have d1 := hSw.2.cell' (i := 1) rfl
    have d2 := hSw.2.cell' (i := 2) rfl
    go_simp; try (with_reducible rfl)
  try simp only [Act.put, List.getElem_toArray, List.getElem_cons_succ, List.getElem_cons_zero, List.setIfInBounds_toArray, List.set_cons_zero, List.set_cons_succ]
  refine wpAnyH_take (i := 7) (v := ?_) rfl (by kernel_rfl) (by kernel_rfl) (by kernel_rfl) (fun _ _ _ h => h) (Or.inl ⟨by rfl, ?_⟩) hHeld ?_
  rotate_left
  · intro w' hSw; try dsimp only at hSw
    have c0 := hSw.1.cell' (i := 0) rfl
    have c1 := hSw.1.cell' (i := 1) rfl
    have c2 := hSw.1.cell' (i := 2) rfl
    have d0 := hSw.2.cell' (i := 0) rfl
    have d1 := hSw.2.cell' (i := 1) rfl
    have d2 := hSw.2.cell' (i := 2) rfl
    go_simp; try (with_reducible rfl)
  try simp only [Act.put, List.getElem_toArray, List.getElem_cons_succ, List.getElem_cons_zero, List.setIfInBounds_toArray, List.set_cons_zero, List.set_cons_succ]
  refine wpAnyH_take (i := 8) (v := ?_) rfl (by kernel_rfl) (by kernel_rfl) (by kernel_rfl) (fun _ _ _ h => h) (Or.inl ⟨by rfl, ?_⟩) hHeld ?_
  rotate_left
  · intro w' hSw; try dsimp only at hSw
    have c0 := hSw.1.cell' (i := 0) rfl
    have c1 := hSw.1.cell' (i := 1) rfl
    have c2 := hSw.1.cell' (i := 2) rfl
    have d0 := hSw.2.cell' (i := 0) rfl
    have d1 := hSw.2.cell' (i := 1) rfl
    have d2 := hSw.2.cell' (i := 2) rfl
    go_simp; try (with_reducible rfl)
  try simp only [Act.put, List.getElem_toArray, List.getElem_cons_succ, List.getElem_cons_zero, List.setIfInBounds_toArray, List.set_cons_zero, List.set_cons_succ]
  refine wpAnyH_ready (rs := [1, 10]) (by kernel_rfl) (by simp) ?_
  refine AllReadyH.cons rfl (fun K hK => ?_) ?_
  · go_simp
    refine (end_any ⟨al, an, ap⟩ _ ha).mono ?_
    rintro e w2 ⟨rfl, rfl⟩
    refine hK.out _ _ ⟨k1.drew.alloc _, k2.drew.alloc _⟩ (fun hHeld => ?_)
    clear hK K
    try simp only [Act.put, List.getElem_toArray, List.getElem_cons_succ, List.getElem_cons_zero, List.setIfInBounds_toArray, List.set_cons_zero, List.set_cons_succ]
    refine wpAnyH_take (i := 9) (v := ?_) rfl (by kernel_rfl) (by kernel_rfl) (by kernel_rfl) (fun _ _ _ h => h) (Or.inl ⟨by rfl, ?_⟩) hHeld ?_
    rotate_left
    · intro w' hSw; try dsimp only at hSw
      go_simp; try (with_reducible rfl)
    try simp only [Act.put, List.getElem_toArray, List.getElem_cons_succ, List.getElem_cons_zero, List.setIfInBounds_toArray, List.set_cons_zero, List.set_cons_succ]
    refine wpAnyH_ready (rs := [10]) (by kernel_rfl) (by simp) ?_
    refine AllReadyH.cons rfl (fun K hK => ?_) AllReadyH.nil
    go_simp
    refine hK.out _ _ ⟨(k1.drew.alloc _).alloc _, (k2.drew.alloc _).alloc _⟩ (fun hHeld => ?_)
    clear hK K
    try simp only [Act.put, List.getElem_toArray, List.getElem_cons_succ, List.getElem_cons_zero, List.setIfInBounds_toArray, List.set_cons_zero, List.set_cons_succ]
    refine wpAnyH_ready (rs := [11]) (by kernel_rfl) (by simp) ?_
    refine AllReadyH.cons rfl (fun K hK => ?_) AllReadyH.nil
    rw [if_pos (by rfl)]
    refine wp_store_blk 31 (.tmp 5) (.tmp 15) rfl _ 0 [.int .i64 (endI ⟨al, an, ap⟩), .int .i64 bn, .int .i64 (ap + an)] rfl rfl (Blk.newAt 31 #[.int .i64 0, .int .i64 0, .int .i64 0] (by simp)).drew (by simp) (by kernel_rfl) (by simp [Value.oneCell']) ?_
    intro w9 h9 ht9
    replace h9 : Blk w9 _ 31 [.int .i64 (al + an), .int .i64 bn, .int .i64 (ap + an)] := h9
    have q1 := hHeld.1.turned ht9 (by omega)
    have q2 := hHeld.2.turned ht9 (by omega)
    refine hK.out _ _ ⟨q1, q2⟩ (fun hHeld => ?_)
    clear hK K
    try simp only [Act.put, List.getElem_toArray, List.getElem_cons_succ, List.getElem_cons_zero, List.setIfInBounds_toArray, List.set_cons_zero, List.set_cons_succ]
    refine wpAnyH_done (by kernel_rfl) ?_ _
    refine NoPanic.normal ?_
    have hbw : Below w.heap.size w w9 := ht9.below (below_al (below_al (below_al (below_al (Below.refl _ w) _) _) _) _).drew (by omega)
    have e0 := q1.cell' (i := 0) rfl
    have e1 := q1.cell' (i := 1) rfl
    have e2 := q1.cell' (i := 2) rfl
    have f0 := q2.cell' (i := 0) rfl
    have f1 := q2.cell' (i := 1) rfl
    have f2 := q2.cell' (i := 2) rfl
    have n0 := h9.cell' (i := 0) rfl
    have n1 := h9.cell' (i := 1) rfl
    have n2 := h9.cell' (i := 2) rfl
    clear hHeld ha hb k1 k2 q1 q2 h9
    by_cases z1 : bl = al + an
    · by_cases z2 : bp = ap + an
      · by_cases z3 : an + bn ≤ 4096
        · subst z1 z2
          have HG : Hid (goB ⟨al, an, ap⟩ ⟨al + an, bn, ap + an⟩ = true) := goB_iff.2 ⟨rfl, rfl, z3⟩
          go_wp2
          go_ret
          exact ⟨ret_bool HG.out.symm, hbw⟩
        · subst z1 z2
          have HG : Hid (goB ⟨al, an, ap⟩ ⟨al + an, bn, ap + an⟩ = false) := by show _ = _; simp [goB]; omega
          go_wp2
          go_ret
          exact ⟨ret_bool HG.out.symm, hbw⟩
      · subst z1
        have z4 : (bp == ap + an) = false := by simpa using z2
        have HG : Hid (goB ⟨al, an, ap⟩ ⟨al + an, bn, bp⟩ = false) := by show _ = _; simp [goB]; omega
        go_wp2
        go_ret
        exact ⟨ret_bool HG.out.symm, hbw⟩
    · have z4 : (bl == al + an) = false := by simpa using z1
      have HG : Hid (goB ⟨al, an, ap⟩ ⟨bl, bn, bp⟩ = false) := by show _ = _; simp [goB]; omega
      go_wp2
      go_ret
      exact ⟨ret_bool HG.out.symm, hbw⟩
  refine AllReadyH.cons rfl (fun K hK => ?_) AllReadyH.nil
  go_simp
  refine hK.out _ _ ⟨k1.drew.alloc _, k2.drew.alloc _⟩ (fun hHeld => ?_)
  clear hK K
  try simp only [Act.put, List.getElem_toArray, List.getElem_cons_succ, List.getElem_cons_zero, List.setIfInBounds_toArray, List.set_cons_zero, List.set_cons_succ]
  refine wpAnyH_ready (rs := [1]) (by kernel_rfl) (by simp) ?_
  refine AllReadyH.cons rfl (fun K hK => ?_) AllReadyH.nil
  go_simp
  refine (end_any ⟨al, an, ap⟩ _ ha).mono ?_
  rintro e w2 ⟨rfl, rfl⟩
  refine hK.out _ _ ⟨(k1.drew.alloc _).alloc _, (k2.drew.alloc _).alloc _⟩ (fun hHeld => ?_)
  clear hK K
  try simp only [Act.put, List.getElem_toArray, List.getElem_cons_succ, List.getElem_cons_zero, List.setIfInBounds_toArray, List.set_cons_zero, List.set_cons_succ]
  refine wpAnyH_take (i := 9) (v := ?_) rfl (by kernel_rfl) (by kernel_rfl) (by kernel_rfl) (fun _ _ _ h => h) (Or.inl ⟨by rfl, ?_⟩) hHeld ?_
  rotate_left
  · intro w' hSw; try dsimp only at hSw
    go_simp; try (with_reducible rfl)
  try simp only [Act.put, List.getElem_toArray, List.getElem_cons_succ, List.getElem_cons_zero, List.setIfInBounds_toArray, List.set_cons_zero, List.set_cons_succ]
  refine wpAnyH_ready (rs := [11]) (by kernel_rfl) (by simp) ?_
  refine AllReadyH.cons rfl (fun K hK => ?_) AllReadyH.nil
  rw [if_pos (by rfl)]
  refine wp_store_blk 31 (.tmp 5) (.tmp 15) rfl _ 0 [.int .i64 (endI ⟨al, an, ap⟩), .int .i64 bn, .int .i64 (ap + an)] rfl rfl ((Blk.newAt 31 #[.int .i64 0, .int .i64 0, .int .i64 0] (by simp)).drew.alloc _) (by simp) (by kernel_rfl) (by simp [Value.oneCell']) ?_
  intro w9 h9 ht9
  replace h9 : Blk w9 _ 31 [.int .i64 (al + an), .int .i64 bn, .int .i64 (ap + an)] := h9
  have q1 := hHeld.1.turned ht9 (by omega)
  have q2 := hHeld.2.turned ht9 (by omega)
  refine hK.out _ _ ⟨q1, q2⟩ (fun hHeld => ?_)
  clear hK K
  try simp only [Act.put, List.getElem_toArray, List.getElem_cons_succ, List.getElem_cons_zero, List.setIfInBounds_toArray, List.set_cons_zero, List.set_cons_succ]
  refine wpAnyH_done (by kernel_rfl) ?_ _
  refine NoPanic.normal ?_
  have hbw : Below w.heap.size w w9 := ht9.below (below_al (below_al (below_al (below_al (Below.refl _ w) _) _) _).drew _) (by omega)
  have e0 := q1.cell' (i := 0) rfl
  have e1 := q1.cell' (i := 1) rfl
  have e2 := q1.cell' (i := 2) rfl
  have f0 := q2.cell' (i := 0) rfl
  have f1 := q2.cell' (i := 1) rfl
  have f2 := q2.cell' (i := 2) rfl
  have n0 := h9.cell' (i := 0) rfl
  have n1 := h9.cell' (i := 1) rfl
  have n2 := h9.cell' (i := 2) rfl
  clear hHeld ha hb k1 k2 q1 q2 h9
  by_cases z1 : bl = al + an
  · by_cases z2 : bp = ap + an
    · by_cases z3 : an + bn ≤ 4096
      · subst z1 z2
        have HG : Hid (goB ⟨al, an, ap⟩ ⟨al + an, bn, ap + an⟩ = true) := goB_iff.2 ⟨rfl, rfl, z3⟩
        go_wp2
        go_ret
        exact ⟨ret_bool HG.out.symm, hbw⟩
      · subst z1 z2
        have HG : Hid (goB ⟨al, an, ap⟩ ⟨al + an, bn, ap + an⟩ = false) := by show _ = _; simp [goB]; omega
        go_wp2
        go_ret
        exact ⟨ret_bool HG.out.symm, hbw⟩
    · subst z1
      have z4 : (bp == ap + an) = false := by simpa using z2
      have HG : Hid (goB ⟨al, an, ap⟩ ⟨al + an, bn, bp⟩ = false) := by show _ = _; simp [goB]; omega
      go_wp2
      go_ret
      exact ⟨ret_bool HG.out.symm, hbw⟩
  · have z4 : (bl == al + an) = false := by simpa using z1
    have HG : Hid (goB ⟨al, an, ap⟩ ⟨bl, bn, bp⟩ = false) := by show _ = _; simp [goB]; omega
    go_wp2
    go_ret
    exact ⟨ret_bool HG.out.symm, hbw⟩
end Go.Proofs.Ytmboohadindlfaa
