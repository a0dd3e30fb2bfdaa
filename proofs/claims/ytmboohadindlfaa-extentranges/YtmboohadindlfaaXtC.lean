/-
  What the reference's goes, within and the reference's part answer.
-/
import Derived.Test.YtmboohadindlfaaXtG
import Derived.Laws.ResultCell
import Derived.Lib.MinMax
namespace Go.Proofs.Ytmboohadindlfaa
open Go.RowKit
theorem ret_ext {fn : Func} {p : Tmp} (h : fn.results = #[.cell p 31]) {R : Ending → World → Prop} {a : Act} {w : World} {g : Nat} {t : TypeId} {x0 x1 x2 : Value} (hp : a.tmps.getD p undef = .pointer (some ⟨g, 0, none⟩))
    (hb : Blk w g t [x0, x1, x2]) (hd : a.defers = []) (hR : R (.returned (.agg #[x0, x1, x2])) w) : bodyPost Try.prog fn R .ret a w :=
  bodyPost_ret (results_cell_row h _ _ g t #[x0, x1, x2] (0, 0) _ hp hb Try.underlying31 rfl (by kernel_rfl)) hd hR
theorem ret_extE {fn : Func} {p u : Tmp} (h : fn.results = #[.cell p 31, .tmp u]) {R : Ending → World → Prop} {a : Act} {w : World} {g : Nat} {t : TypeId} {x0 x1 x2 v : Value} (hp : a.tmps.getD p undef = .pointer (some ⟨g, 0, none⟩))
    (hb : Blk w g t [x0, x1, x2]) (hd : a.defers = []) (hu : a.tmps.getD u undef = v) (hR : R (.returned (.tuple #[.agg #[x0, x1, x2], v])) w) : bodyPost Try.prog fn R .ret a w := by
  refine bodyPost_ret (v := .tuple #[.agg #[x0, x1, x2], v]) ?_ hd hR
  rw [results_cell_tmp h, hp, hu]
  have := run_loadVar_mid w g 0 31 [x0, x1, x2] _ (hb.range 0 3 _ rfl) Try.underlying31 rfl (by kernel_rfl)
  simp only [asAddr, Sem.run_pure, Result.andThen_ok, this]
set_option linter.unusedSimpArgs false in
set_option linter.unusedVariables false in
set_option maxRecDepth 100000 in
set_option maxHeartbeats 4000000 in
theorem rgo_any (a b : Ext) (w : World) (ha : oneB a = true) (hb : oneB b = true) : Calls Try.prog 41 #[a.val, b.val] w fun x w' => x = .returned (.bool (goB a b)) ∧ Below w.heap.size w w' := by
  obtain ⟨al, an, ap⟩ := a
  obtain ⟨bl, bn, bp⟩ := b
  have ha' := oneB_iff.1 ha
  have hb' := oneB_iff.1 hb
  dsimp only at ha' hb'
  obtain ⟨h1, h2, h3, h4, h5, h6⟩ := ha'
  obtain ⟨g1, g2, g3, g4, g5, g6⟩ := hb'
  clear ha hb
  by_cases z1 : al + an = bl
  · by_cases z2 : ap + an = bp
    · by_cases z3 : an + bn ≤ 4096
      · have y1 : (al + an == bl) = true := by simpa using z1
        have y2 : (ap + an == bp) = true := by simpa using z2
        have HG : Hid (goB ⟨al, an, ap⟩ ⟨bl, bn, bp⟩ = true) := by show _ = _; simp [goB]; omega
        go_enter Try.func41, Try.ntmps41
        go_wp2
        go_ret
        exact ⟨ret_bool HG.out.symm, below_al (below_al (Below.refl _ w) _) _⟩
      · have y1 : (al + an == bl) = true := by simpa using z1
        have y2 : (ap + an == bp) = true := by simpa using z2
        have HG : Hid (goB ⟨al, an, ap⟩ ⟨bl, bn, bp⟩ = false) := by show _ = _; simp [goB]; omega
        go_enter Try.func41, Try.ntmps41
        go_wp2
        go_ret
        exact ⟨ret_bool HG.out.symm, below_al (below_al (Below.refl _ w) _) _⟩
    · have y1 : (al + an == bl) = true := by simpa using z1
      have y2 : (ap + an == bp) = false := by simpa using z2
      have HG : Hid (goB ⟨al, an, ap⟩ ⟨bl, bn, bp⟩ = false) := by show _ = _; simp [goB]; omega
      go_enter Try.func41, Try.ntmps41
      go_wp2
      go_ret
      exact ⟨ret_bool HG.out.symm, below_al (below_al (Below.refl _ w) _) _⟩
  · have y1 : (al + an == bl) = false := by simpa using z1
    have HG : Hid (goB ⟨al, an, ap⟩ ⟨bl, bn, bp⟩ = false) := by show _ = _; simp [goB]; omega
    go_enter Try.func41, Try.ntmps41
    go_wp2
    go_ret
    exact ⟨ret_bool HG.out.symm, below_al (below_al (Below.refl _ w) _) _⟩
set_option linter.unusedSimpArgs false in
set_option linter.unusedVariables false in
set_option maxRecDepth 100000 in
set_option maxHeartbeats 4000000 in
theorem within_any (e : Ext) (f t : Int) (w : World) (he : oneB e = true) : Calls Try.prog 38 #[e.val, .int .i64 f, .int .i64 t] w fun x w' => x = .returned (partE f t e).val ∧ Below w.heap.size w w' := by
  obtain ⟨lo, ln, ph⟩ := e
  have he' := oneB_iff.1 he
  dsimp only at he'
  obtain ⟨h1, h2, h3, h4, h5, h6⟩ := he'
  have k1 := (Blk.new' w 31 #[.int .i64 lo, .int .i64 ln, .int .i64 ph]).alloc (.cells #[.int .i64 0, .int .i64 0, .int .i64 0] 31)
  have k2 := Blk.newAt (w := w.alloc (.cells #[.int .i64 lo, .int .i64 ln, .int .i64 ph] 31)) (g := w.heap.size + 1) 31 #[.int .i64 0, .int .i64 0, .int .i64 0] (by simp)
  obtain ⟨A, hA⟩ : ∃ A, max lo f = A := ⟨_, rfl⟩
  obtain ⟨B, hB⟩ : ∃ B, min (endI ⟨lo, ln, ph⟩) t = B := ⟨_, rfl⟩
  have hB2 : min (lo + ln) t = B := hB
  go_enter Try.func38, Try.ntmps38
  go_upto_region 1 with fail
  refine wp_region_noPanic ?_
  refine wp_region_held_drew (S := fun X => Blk X w.heap.size 31 [.int .i64 lo, .int .i64 ln, .int .i64 ph]) (by kernel_rfl) k1.drew (fun hHeld => ?_)
  refine wpAnyH_take (i := 0) (v := ?_) rfl (by kernel_rfl) (by kernel_rfl) (by kernel_rfl) (fun _ _ _ h => h) (Or.inl ⟨by rfl, ?_⟩) hHeld ?_
  rotate_left
  · intro w' hSw; try dsimp only at hSw
    have c0 := hSw.cell' (i := 0) rfl
    have c1 := hSw.cell' (i := 1) rfl
    have c2 := hSw.cell' (i := 2) rfl
    go_simp; try (with_reducible rfl)
  try simp only [Act.put, List.getElem_toArray, List.getElem_cons_succ, List.getElem_cons_zero, List.setIfInBounds_toArray, List.set_cons_zero, List.set_cons_succ]
  refine wpAnyH_take (i := 1) (v := ?_) rfl (by kernel_rfl) (by kernel_rfl) (by kernel_rfl) (fun _ _ _ h => h) (Or.inl ⟨by rfl, ?_⟩) hHeld ?_
  rotate_left
  · intro w' hSw; try dsimp only at hSw
    have c0 := hSw.cell' (i := 0) rfl
    have c1 := hSw.cell' (i := 1) rfl
    have c2 := hSw.cell' (i := 2) rfl
    go_simp; try (with_reducible rfl)
  try simp only [Act.put, List.getElem_toArray, List.getElem_cons_succ, List.getElem_cons_zero, List.setIfInBounds_toArray, List.set_cons_zero, List.set_cons_succ]
  refine wpAnyH_take (i := 2) (v := ?_) rfl (by kernel_rfl) (by kernel_rfl) (by kernel_rfl) (fun _ _ _ h => h) (Or.inl ⟨by rfl, ?_⟩) hHeld ?_
  rotate_left
  · intro w' hSw; try dsimp only at hSw
    have c0 := hSw.cell' (i := 0) rfl
    have c1 := hSw.cell' (i := 1) rfl
    have c2 := hSw.cell' (i := 2) rfl
    go_simp; try (with_reducible rfl)
  try simp only [Act.put, List.getElem_toArray, List.getElem_cons_succ, List.getElem_cons_zero, List.setIfInBounds_toArray, List.set_cons_zero, List.set_cons_succ]
  refine wpAnyH_take (i := 3) (v := ?_) rfl (by kernel_rfl) (by kernel_rfl) (by kernel_rfl) (fun _ _ _ h => h) (Or.inl ⟨by rfl, ?_⟩) hHeld ?_
  rotate_left
  · intro w' hSw; try dsimp only at hSw
    have c0 := hSw.cell' (i := 0) rfl
    have c1 := hSw.cell' (i := 1) rfl
    have c2 := hSw.cell' (i := 2) rfl
    go_simp; try (with_reducible rfl)
  try simp only [Act.put, List.getElem_toArray, List.getElem_cons_succ, List.getElem_cons_zero, List.setIfInBounds_toArray, List.set_cons_zero, List.set_cons_succ]
  refine wpAnyH_take (i := 4) (v := ?_) rfl (by kernel_rfl) (by kernel_rfl) (by kernel_rfl) (fun _ _ _ h => h) (Or.inl ⟨by rfl, ?_⟩) hHeld ?_
  rotate_left
  · intro w' hSw; try dsimp only at hSw
    have c0 := hSw.cell' (i := 0) rfl
    have c1 := hSw.cell' (i := 1) rfl
    have c2 := hSw.cell' (i := 2) rfl
    go_simp; try (with_reducible rfl)
  try simp only [Act.put, List.getElem_toArray, List.getElem_cons_succ, List.getElem_cons_zero, List.setIfInBounds_toArray, List.set_cons_zero, List.set_cons_succ]
  refine wpAnyH_take (i := 6) (v := ?_) rfl (by kernel_rfl) (by kernel_rfl) (by kernel_rfl) (fun _ _ _ h => h) (Or.inl ⟨by rfl, ?_⟩) hHeld ?_
  rotate_left
  · intro w' hSw; try dsimp only at hSw
    have c0 := hSw.cell' (i := 0) rfl
    have c1 := hSw.cell' (i := 1) rfl
    have c2 := hSw.cell' (i := 2) rfl
    go_simp; try (with_reducible rfl)
  try simp only [Act.put, List.getElem_toArray, List.getElem_cons_succ, List.getElem_cons_zero, List.setIfInBounds_toArray, List.set_cons_zero, List.set_cons_succ]
  refine wpAnyH_ready (rs := [5]) (by kernel_rfl) (by simp) ?_
  refine AllReadyH.cons rfl (fun K hK => ?_) AllReadyH.nil
  go_simp
  refine (end_any ⟨lo, ln, ph⟩ _ he).mono ?_
  rintro e w2 ⟨rfl, rfl⟩
  refine hK.out _ _ (k1.drew.alloc _) (fun hHeld => ?_)
  clear hK K
  try simp only [Act.put, List.getElem_toArray, List.getElem_cons_succ, List.getElem_cons_zero, List.setIfInBounds_toArray, List.set_cons_zero, List.set_cons_succ]
  refine wpAnyH_take (i := 7) (v := ?_) rfl (by kernel_rfl) (by kernel_rfl) (by kernel_rfl) (fun _ _ _ h => h) (Or.inl ⟨by rfl, ?_⟩) hHeld ?_
  rotate_left
  · intro w' hSw; try dsimp only at hSw
    have c0 := hSw.cell' (i := 0) rfl
    have c1 := hSw.cell' (i := 1) rfl
    have c2 := hSw.cell' (i := 2) rfl
    go_simp; try (with_reducible rfl)
  try simp only [Act.put, List.getElem_toArray, List.getElem_cons_succ, List.getElem_cons_zero, List.setIfInBounds_toArray, List.set_cons_zero, List.set_cons_succ]
  refine wpAnyH_take (i := 8) (v := ?_) rfl (by kernel_rfl) (by kernel_rfl) (by kernel_rfl) (fun _ _ _ h => h) (Or.inl ⟨by rfl, ?_⟩) hHeld ?_
  rotate_left
  · intro w' hSw; try dsimp only at hSw
    have c0 := hSw.cell' (i := 0) rfl
    have c1 := hSw.cell' (i := 1) rfl
    have c2 := hSw.cell' (i := 2) rfl
    go_simp; try (with_reducible rfl)
  try simp only [Act.put, List.getElem_toArray, List.getElem_cons_succ, List.getElem_cons_zero, List.setIfInBounds_toArray, List.set_cons_zero, List.set_cons_succ]
  refine wpAnyH_take (i := 9) (v := ?_) rfl (by kernel_rfl) (by kernel_rfl) (by kernel_rfl) (fun _ _ _ h => h) (Or.inl ⟨by rfl, ?_⟩) hHeld ?_
  rotate_left
  · intro w' hSw; try dsimp only at hSw
    have c0 := hSw.cell' (i := 0) rfl
    have c1 := hSw.cell' (i := 1) rfl
    have c2 := hSw.cell' (i := 2) rfl
    go_simp; try (with_reducible rfl)
  try simp only [Act.put, List.getElem_toArray, List.getElem_cons_succ, List.getElem_cons_zero, List.setIfInBounds_toArray, List.set_cons_zero, List.set_cons_succ]
  refine wpAnyH_done (by kernel_rfl) ?_ _
  refine NoPanic.normal ?_
  have q1 := k1.drew.alloc (.cells #[.int .i64 lo, .int .i64 ln, .int .i64 ph] 31)
  have q2 := k2.drew.alloc (.cells #[.int .i64 lo, .int .i64 ln, .int .i64 ph] 31)
  have hb := below_al (below_al (below_al (Below.refl _ w) (.cells #[.int .i64 lo, .int .i64 ln, .int .i64 ph] 31)) (.cells #[.int .i64 0, .int .i64 0, .int .i64 0] 31)).drew (.cells #[.int .i64 lo, .int .i64 ln, .int .i64 ph] 31)
  generalize World.alloc (World.drew _) _ = w5 at *
  clear hHeld k1 k2 he
  have e0 := q1.cell' (i := 0) rfl
  have e1 := q1.cell' (i := 1) rfl
  have e2 := q1.cell' (i := 2) rfl
  by_cases hAB : A < B
  · have HP : Hid (partE f t ⟨lo, ln, ph⟩ = ⟨A, B - A, ph + A - lo⟩) := by
      show _ = _
      rw [partE_yes (partB_iff.2 (by dsimp only; omega))]
      dsimp only
      rw [show max lo f = A by omega, show min (lo + ln) t = B by omega]
    go_wp2_with (guard_target = wpList _ _ _ (Oper.mk _ (Op.store _ _ _) _ _ _ _ :: _) _ _; refine wpList_store_blk rfl 31 (.tmp 6) (.tmp 32) rfl _ 0 [.int .i64 A, .int .i64 (B - A), .int .i64 (ph + A - lo)] rfl rfl q2 (by simp) (by kernel_rfl) (by simp [Value.oneCell']) ?_; intro w9 h9 ht9)
    replace h9 : Blk w9 _ 31 [.int .i64 A, .int .i64 (B - A), .int .i64 (ph + A - lo)] := h9
    refine ret_ext rfl rfl h9 rfl ?_
    rw [HP.out]
    exact ⟨rfl, ht9.below hb (by omega)⟩
  · have HP : Hid (partE f t ⟨lo, ln, ph⟩ = ⟨0, 0, 0⟩) := partE_no (by simp [partB]; omega)
    go_wp2_with (guard_target = wpList _ _ _ (Oper.mk _ (Op.store _ _ _) _ _ _ _ :: _) _ _; refine wpList_store_blk rfl 31 (.tmp 6) (.tmp 20) rfl _ 0 [.int .i64 0, .int .i64 0, .int .i64 0] rfl rfl q2 (by simp) (by kernel_rfl) (by simp [Value.oneCell']) ?_; intro w9 h9 ht9)
    replace h9 : Blk w9 _ 31 [.int .i64 0, .int .i64 0, .int .i64 0] := h9
    refine ret_ext rfl rfl h9 rfl ?_
    rw [HP.out]
    exact ⟨rfl, ht9.below hb (by omega)⟩
set_option linter.unusedSimpArgs false in
set_option linter.unusedVariables false in
set_option maxRecDepth 100000 in
set_option maxHeartbeats 4000000 in
theorem rpart_any (e : Ext) (f t : Int) (w : World) (he : oneB e = true) : Calls Try.prog 43 #[e.val, .int .i64 f, .int .i64 t] w fun x w' => x = .returned (.tuple #[(partE f t e).val, .bool (partB f t e)]) ∧ Below w.heap.size w w' := by
  obtain ⟨lo, ln, ph⟩ := e
  have he' := oneB_iff.1 he
  dsimp only at he'
  obtain ⟨h1, h2, h3, h4, h5, h6⟩ := he'
  have k1 := (Blk.new' w 31 #[.int .i64 lo, .int .i64 ln, .int .i64 ph]).alloc (.cells #[.int .i64 0, .int .i64 0, .int .i64 0] 31)
  have k2 := Blk.newAt (w := w.alloc (.cells #[.int .i64 lo, .int .i64 ln, .int .i64 ph] 31)) (g := w.heap.size + 1) 31 #[.int .i64 0, .int .i64 0, .int .i64 0] (by simp)
  obtain ⟨A, hA⟩ : ∃ A, max f lo = A := ⟨_, rfl⟩
  obtain ⟨B, hB⟩ : ∃ B, min t (lo + ln) = B := ⟨_, rfl⟩
  have hb := below_al (below_al (Below.refl _ w) (.cells #[.int .i64 lo, .int .i64 ln, .int .i64 ph] 31)) (.cells #[.int .i64 0, .int .i64 0, .int .i64 0] 31)
  have q1 := k1
  have q2 := k2
  go_enter Try.func43, Try.ntmps43
  go_upto_region 1 with fail
  generalize World.alloc (World.alloc _ _) _ = w5 at *
  clear k1 k2 he
  have e0 := q1.cell' (i := 0) rfl
  have e1 := q1.cell' (i := 1) rfl
  have e2 := q1.cell' (i := 2) rfl
  by_cases hAB : A < B
  · have HP : Hid (partE f t ⟨lo, ln, ph⟩ = ⟨A, B - A, ph + A - lo⟩) := by
      show _ = _
      rw [partE_yes (partB_iff.2 (by dsimp only; omega))]
      dsimp only
      rw [show max lo f = A by omega, show min (lo + ln) t = B by omega]
    go_wp2_with (guard_target = wpList _ _ _ (Oper.mk _ (Op.store _ _ _) _ _ _ _ :: _) _ _; refine wpList_store_blk rfl 31 (.tmp 6) (.tmp 36) rfl _ 0 [.int .i64 A, .int .i64 (B - A), .int .i64 (ph + A - lo)] rfl rfl q2 (by simp) (by kernel_rfl) (by simp [Value.oneCell']) ?_; intro w9 h9 ht9)
    replace h9 : Blk w9 _ 31 [.int .i64 A, .int .i64 (B - A), .int .i64 (ph + A - lo)] := h9
    refine ret_extE rfl rfl h9 rfl rfl ?_
    rw [HP.out, show partB f t ⟨lo, ln, ph⟩ = true from partB_iff.2 (by dsimp only; omega)]
    exact ⟨rfl, ht9.below hb (by omega)⟩
  · have HP : Hid (partE f t ⟨lo, ln, ph⟩ = ⟨0, 0, 0⟩) := partE_no (by simp [partB]; omega)
    go_wp2_with (guard_target = wpList _ _ _ (Oper.mk _ (Op.store _ _ _) _ _ _ _ :: _) _ _; refine wpList_store_blk rfl 31 (.tmp 6) (.tmp 24) rfl _ 0 [.int .i64 0, .int .i64 0, .int .i64 0] rfl rfl q2 (by simp) (by kernel_rfl) (by simp [Value.oneCell']) ?_; intro w9 h9 ht9)
    replace h9 : Blk w9 _ 31 [.int .i64 0, .int .i64 0, .int .i64 0] := h9
    refine ret_extE rfl rfl h9 rfl rfl ?_
    rw [HP.out, show partB f t ⟨lo, ln, ph⟩ = false by simp [partB]; omega]
    exact ⟨rfl, ht9.below hb (by omega)⟩
end Go.Proofs.Ytmboohadindlfaa
