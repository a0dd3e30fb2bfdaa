/-
  One call of the law with both caches: Read, Write, the cut, and what is none of these.
-/
import Derived.Test.YtdmnddikcpfmfaaGreatCkTd
import Derived.Test.YtdmnddikcpfmfaaGreatEqual
namespace Go.Proofs.YtdmnddikcpfmfaaGreat
open Go.RowKit Go.Shelf
theorem In.tail1 {w : World} {g : Nat} {xs : List Nat} (h : In w (some ⟨g, 0, none⟩) 256 256 xs) : In w (some ⟨g, 1, none⟩) 255 255 (xs.drop 1) := by
  have hl := h.len
  obtain ⟨b, o, hp, hlt, hc⟩ := h.at' (by decide)
  cases hp
  refine ⟨by rw [List.length_drop]; omega, Nat.le_refl _, by decide, by decide, fun x hx => h.byte x (List.mem_of_mem_drop hx), fun _ => ⟨g, 1, rfl, hlt, fun i hi => ?_⟩, fun h => by cases h⟩
  have := hc (i + 1) (by omega)
  rw [show 0 + (i + 1) = 1 + i by omega] at this
  rw [this]
  have e : el xs (i + 1) = el (xs.drop 1) i := by unfold el; simp [List.getD_eq_getElem?_getD]
  rw [e]
set_option linter.unusedSimpArgs false in
set_option linter.unusedVariables false in
set_option maxRecDepth 100000 in
set_option maxHeartbeats 4000000 in
theorem does_read {B0 : Nat} {w : World} {tw : Nat} {c : CS} {q : QS} {N : Nat} (T : Twin B0 w tw c q N) (hN : N ≤ 900) (i : Int) (f : Nat) (cl : Int) (p : Option Addr) (n cc : Nat) (cut : Int) : Calls Tryz.prog 9 #[.pointer (some ⟨tw, 0, none⟩), .agg #[.int .i64 0, .int .i64 i, .int .u8 (f : Int), .int .i64 cl, .slice p n cc, .int .i64 cut]] w (DoesOk B0 tw c q N w) := by
  have hb0 := below_alloc w (.cells #[.int .i64 0, .int .i64 i, .int .u8 (f : Int), .int .i64 cl, .slice p n cc, .int .i64 cut] 42)
  have g3 := Blk.new' w 42 #[.int .i64 0, .int .i64 i, .int .u8 (f : Int), .int .i64 cl, .slice p n cc, .int .i64 cut]
  have T0 := T.below hb0.drew
  have tb := T0.tb
  have g3d := g3.drew
  have k0 := g3.cell' (i := 0) rfl
  have k2 := g3.cell' (i := 2) rfl
  have hbB := (hb0.drew).mono T.le
  obtain ⟨z1, z2, z3, z4, z5, z6⟩ := T0.wrB (by omega)
  obtain ⟨hg, hgp⟩ := T0.got hN i
  have hpi := (T0.pi.fet T0.ok c.room i).mono (Nat.le_succ N)
  obtain ⟨e1, e2, e3⟩ := get_rel T0.rel T0.Q.ref.lc c.room c.P i
  have h1 := cRead_any T0.C i z1
  have h2 := fun w1 (hq1 : QIn w1 q) => qread_any hq1 i (fun b hb => T0.pi.c b (by rw [← T0.P]; exact hb)) z3 z4 rfl rfl (fun h0 => (hg h0).1) (fun h0 => (hg h0).2.1)
  have hD : (if (getQ q.room q.P q.t i).1 = 0 then (gotQ q.room q.P q.t i).D else []) = rdC c.room c.P c.ds i := by
    unfold rdC
    have e1' := e1
    rw [← T0.room, ← T0.P] at e1'
    rw [T0.room, T0.P] at e1'
    by_cases h0 : (getQ q.room q.P q.t i).1 = 0
    · have h0' := h0
      rw [T0.room, T0.P, e1] at h0'
      rw [if_pos h0, if_pos h0', (hg h0).2.2.2.1]
    · have h0' := h0
      rw [T0.room, T0.P, e1] at h0'
      rw [if_neg h0, if_neg h0']
  rw [hD] at h2
  rw [T0.room, T0.P, e2, e1] at h2
  clear hg hgp hD
  generalize rdC c.room c.P c.ds i = D at *
  have HE3 : Hid (DRel (fetC c.room c.P c.ds i).2.2 (getQ c.room c.P q.t i).2.2) := e3
  clear e1 e2 e3
  generalize fetC c.room c.P c.ds i = R at *
  obtain ⟨er, l1, d1⟩ := R
  generalize getQ c.room c.P q.t i = GQ at *
  obtain ⟨g1, g2, t1⟩ := GQ
  dsimp only at h1 h2 hpi HE3
  go_enter Tryz.func9, Tryz.ntmps9
  go_upto_region 3 with fail
  generalize w.alloc (.cells #[.int .i64 0, .int .i64 i, .int .u8 (f : Int), .int .i64 cl, .slice p n cc, .int .i64 cut] 42) = V at *
  refine wp_region_noPanic ?_
  refine wp_region_held_drew (S := (fun X => Blk X tw 39 [.pointer (some ⟨c.d, 0, none⟩), .pointer (some ⟨c.c, 0, none⟩), .pointer (some ⟨q.g, 0, none⟩), .pointer (some ⟨q.q, 0, none⟩)] ∧ Blk X w.heap.size 42 [.int .i64 0, .int .i64 i, .int .u8 (f : Int), .int .i64 cl, .slice p n cc, .int .i64 cut])) (by kernel_rfl) ⟨tb, g3d⟩ (fun hHeld => ?_)
  refine wpAnyH_take (i := 0) (v := ?_) rfl (by kernel_rfl) (by kernel_rfl) (by kernel_rfl) (fun _ _ _ h => h) (Or.inl ⟨by kernel_rfl, ?_⟩) hHeld ?_
  rotate_left
  · intro w' hSw; try dsimp only at hSw
    have d0 := hSw.1.cell' (i := 0) rfl
    have d1 := hSw.1.cell' (i := 1) rfl
    have d2 := hSw.1.cell' (i := 2) rfl
    have d3 := hSw.1.cell' (i := 3) rfl
    have u0 := hSw.2.cell' (i := 0) rfl
    have u1 := hSw.2.cell' (i := 1) rfl
    have u2 := hSw.2.cell' (i := 2) rfl
    have u3 := hSw.2.cell' (i := 3) rfl
    have u4 := hSw.2.cell' (i := 4) rfl
    have u5 := hSw.2.cell' (i := 5) rfl
    go_simp; try (with_reducible rfl)
  try simp only [Act.put, List.getElem_toArray, List.getElem_cons_succ, List.getElem_cons_zero, List.setIfInBounds_toArray, List.set_cons_zero, List.set_cons_succ]
  refine wpAnyH_take (i := 1) (v := ?_) rfl (by kernel_rfl) (by kernel_rfl) (by kernel_rfl) (fun _ _ _ h => h) (Or.inl ⟨by kernel_rfl, ?_⟩) hHeld ?_
  rotate_left
  · intro w' hSw; try dsimp only at hSw
    have d0 := hSw.1.cell' (i := 0) rfl
    have d1 := hSw.1.cell' (i := 1) rfl
    have d2 := hSw.1.cell' (i := 2) rfl
    have d3 := hSw.1.cell' (i := 3) rfl
    have u0 := hSw.2.cell' (i := 0) rfl
    have u1 := hSw.2.cell' (i := 1) rfl
    have u2 := hSw.2.cell' (i := 2) rfl
    have u3 := hSw.2.cell' (i := 3) rfl
    have u4 := hSw.2.cell' (i := 4) rfl
    have u5 := hSw.2.cell' (i := 5) rfl
    go_simp; try (with_reducible rfl)
  try simp only [Act.put, List.getElem_toArray, List.getElem_cons_succ, List.getElem_cons_zero, List.setIfInBounds_toArray, List.set_cons_zero, List.set_cons_succ]
  refine wpAnyH_take (i := 2) (v := ?_) rfl (by kernel_rfl) (by kernel_rfl) (by kernel_rfl) (fun _ _ _ h => h) (Or.inl ⟨by kernel_rfl, ?_⟩) hHeld ?_
  rotate_left
  · intro w' hSw; try dsimp only at hSw
    have d0 := hSw.1.cell' (i := 0) rfl
    have d1 := hSw.1.cell' (i := 1) rfl
    have d2 := hSw.1.cell' (i := 2) rfl
    have d3 := hSw.1.cell' (i := 3) rfl
    have u0 := hSw.2.cell' (i := 0) rfl
    have u1 := hSw.2.cell' (i := 1) rfl
    have u2 := hSw.2.cell' (i := 2) rfl
    have u3 := hSw.2.cell' (i := 3) rfl
    have u4 := hSw.2.cell' (i := 4) rfl
    have u5 := hSw.2.cell' (i := 5) rfl
    go_simp; try (with_reducible rfl)
  try simp only [Act.put, List.getElem_toArray, List.getElem_cons_succ, List.getElem_cons_zero, List.setIfInBounds_toArray, List.set_cons_zero, List.set_cons_succ]
  refine wpAnyH_take (i := 3) (v := ?_) rfl (by kernel_rfl) (by kernel_rfl) (by kernel_rfl) (fun _ _ _ h => h) (Or.inl ⟨by kernel_rfl, ?_⟩) hHeld ?_
  rotate_left
  · intro w' hSw; try dsimp only at hSw
    have d0 := hSw.1.cell' (i := 0) rfl
    have d1 := hSw.1.cell' (i := 1) rfl
    have d2 := hSw.1.cell' (i := 2) rfl
    have d3 := hSw.1.cell' (i := 3) rfl
    have u0 := hSw.2.cell' (i := 0) rfl
    have u1 := hSw.2.cell' (i := 1) rfl
    have u2 := hSw.2.cell' (i := 2) rfl
    have u3 := hSw.2.cell' (i := 3) rfl
    have u4 := hSw.2.cell' (i := 4) rfl
    have u5 := hSw.2.cell' (i := 5) rfl
    go_simp; try (with_reducible rfl)
  try simp only [Act.put, List.getElem_toArray, List.getElem_cons_succ, List.getElem_cons_zero, List.setIfInBounds_toArray, List.set_cons_zero, List.set_cons_succ]
  refine wpAnyH_take (i := 4) (v := ?_) rfl (by kernel_rfl) (by kernel_rfl) (by kernel_rfl) (fun _ _ _ h => h) (Or.inl ⟨by kernel_rfl, ?_⟩) hHeld ?_
  rotate_left
  · intro w' hSw; try dsimp only at hSw
    have d0 := hSw.1.cell' (i := 0) rfl
    have d1 := hSw.1.cell' (i := 1) rfl
    have d2 := hSw.1.cell' (i := 2) rfl
    have d3 := hSw.1.cell' (i := 3) rfl
    have u0 := hSw.2.cell' (i := 0) rfl
    have u1 := hSw.2.cell' (i := 1) rfl
    have u2 := hSw.2.cell' (i := 2) rfl
    have u3 := hSw.2.cell' (i := 3) rfl
    have u4 := hSw.2.cell' (i := 4) rfl
    have u5 := hSw.2.cell' (i := 5) rfl
    go_simp; try (with_reducible rfl)
  try simp only [Act.put, List.getElem_toArray, List.getElem_cons_succ, List.getElem_cons_zero, List.setIfInBounds_toArray, List.set_cons_zero, List.set_cons_succ]
  refine wpAnyH_take (i := 5) (v := ?_) rfl (by kernel_rfl) (by kernel_rfl) (by kernel_rfl) (fun _ _ _ h => h) (Or.inl ⟨by kernel_rfl, ?_⟩) hHeld ?_
  rotate_left
  · intro w' hSw; try dsimp only at hSw
    have d0 := hSw.1.cell' (i := 0) rfl
    have d1 := hSw.1.cell' (i := 1) rfl
    have d2 := hSw.1.cell' (i := 2) rfl
    have d3 := hSw.1.cell' (i := 3) rfl
    have u0 := hSw.2.cell' (i := 0) rfl
    have u1 := hSw.2.cell' (i := 1) rfl
    have u2 := hSw.2.cell' (i := 2) rfl
    have u3 := hSw.2.cell' (i := 3) rfl
    have u4 := hSw.2.cell' (i := 4) rfl
    have u5 := hSw.2.cell' (i := 5) rfl
    go_simp; try (with_reducible rfl)
  try simp only [Act.put, List.getElem_toArray, List.getElem_cons_succ, List.getElem_cons_zero, List.setIfInBounds_toArray, List.set_cons_zero, List.set_cons_succ]
  refine wpAnyH_ready (rs := [6]) (by kernel_rfl) (by simp) ?_
  refine AllReadyH.cons rfl (fun K hK => ?_) AllReadyH.nil
  go_simp
  refine h1.mono ?_
  rintro e w1 ⟨pa, ca, rfl, hia, hua, c1, A, hP1, hD1⟩
  have Q1 := T0.Q.keepC T0.C A.keep
  refine hK.out _ _ ⟨A.blk T0.C hHeld.1 (by decide) (by decide) (by decide) (by decide), A.blk T0.C hHeld.2 (by decide) (by decide) (by decide) (by decide)⟩ (fun hHeld => ?_)
  clear hK K
  try simp only [Act.put, List.getElem_toArray, List.getElem_cons_succ, List.getElem_cons_zero, List.setIfInBounds_toArray, List.set_cons_zero, List.set_cons_succ]
  refine wpAnyH_take (i := 7) (v := ?_) rfl (by kernel_rfl) (by kernel_rfl) (by kernel_rfl) (fun _ _ _ h => h) (Or.inl ⟨by kernel_rfl, ?_⟩) hHeld ?_
  rotate_left
  · intro w' hSw; try dsimp only at hSw
    go_simp; try (with_reducible rfl)
  try simp only [Act.put, List.getElem_toArray, List.getElem_cons_succ, List.getElem_cons_zero, List.setIfInBounds_toArray, List.set_cons_zero, List.set_cons_succ]
  refine wpAnyH_take (i := 8) (v := ?_) rfl (by kernel_rfl) (by kernel_rfl) (by kernel_rfl) (fun _ _ _ h => h) (Or.inl ⟨by kernel_rfl, ?_⟩) hHeld ?_
  rotate_left
  · intro w' hSw; try dsimp only at hSw
    go_simp; try (with_reducible rfl)
  try simp only [Act.put, List.getElem_toArray, List.getElem_cons_succ, List.getElem_cons_zero, List.setIfInBounds_toArray, List.set_cons_zero, List.set_cons_succ]
  refine wpAnyH_take (i := 9) (v := ?_) rfl (by kernel_rfl) (by kernel_rfl) (by kernel_rfl) (fun _ _ _ h => h) (Or.inl ⟨by kernel_rfl, ?_⟩) hHeld ?_
  rotate_left
  · intro w' hSw; try dsimp only at hSw
    go_simp; try (with_reducible rfl)
  try simp only [Act.put, List.getElem_toArray, List.getElem_cons_succ, List.getElem_cons_zero, List.setIfInBounds_toArray, List.set_cons_zero, List.set_cons_succ]
  refine wpAnyH_take (i := 10) (v := ?_) rfl (by kernel_rfl) (by kernel_rfl) (by kernel_rfl) (fun _ _ _ h => h) (Or.inl ⟨by kernel_rfl, ?_⟩) hHeld ?_
  rotate_left
  · intro w' hSw; try dsimp only at hSw
    go_simp; try (with_reducible rfl)
  try simp only [Act.put, List.getElem_toArray, List.getElem_cons_succ, List.getElem_cons_zero, List.setIfInBounds_toArray, List.set_cons_zero, List.set_cons_succ]
  refine wpAnyH_take (i := 11) (v := ?_) rfl (by kernel_rfl) (by kernel_rfl) (by kernel_rfl) (fun _ _ _ h => h) (Or.inl ⟨by kernel_rfl, ?_⟩) hHeld ?_
  rotate_left
  · intro w' hSw; try dsimp only at hSw
    go_simp; try (with_reducible rfl)
  try simp only [Act.put, List.getElem_toArray, List.getElem_cons_succ, List.getElem_cons_zero, List.setIfInBounds_toArray, List.set_cons_zero, List.set_cons_succ]
  refine wpAnyH_done (by kernel_rfl) ?_ _
  refine NoPanic.normal ?_
  obtain ⟨tb1, g31⟩ := hHeld
  go_wp2
  clear h1
  have Q1d := Q1.below ((Below.refl _ _).drew)
  have hd1 : In w1.drew pa D.length ca D ∧ U8 w1.drew pa := ⟨hia.below ((Below.refl _ _).drew), hua⟩
  refine wp_region_noPanic ?_
  refine wp_region_held_drew (S := (fun X => Blk X tw 39 [.pointer (some ⟨c.d, 0, none⟩), .pointer (some ⟨c.c, 0, none⟩), .pointer (some ⟨q.g, 0, none⟩), .pointer (some ⟨q.q, 0, none⟩)] ∧ Blk X w.heap.size 42 [.int .i64 0, .int .i64 i, .int .u8 (f : Int), .int .i64 cl, .slice p n cc, .int .i64 cut])) (by kernel_rfl) ⟨tb1.drew, g31.drew⟩ (fun hHeld => ?_)
  refine wpAnyH_take (i := 0) (v := ?_) rfl (by kernel_rfl) (by kernel_rfl) (by kernel_rfl) (fun _ _ _ h => h) (Or.inl ⟨by kernel_rfl, ?_⟩) hHeld ?_
  rotate_left
  · intro w' hSw; try dsimp only at hSw
    have d0 := hSw.1.cell' (i := 0) rfl
    have d1 := hSw.1.cell' (i := 1) rfl
    have d2 := hSw.1.cell' (i := 2) rfl
    have d3 := hSw.1.cell' (i := 3) rfl
    have u0 := hSw.2.cell' (i := 0) rfl
    have u1 := hSw.2.cell' (i := 1) rfl
    have u2 := hSw.2.cell' (i := 2) rfl
    have u3 := hSw.2.cell' (i := 3) rfl
    have u4 := hSw.2.cell' (i := 4) rfl
    have u5 := hSw.2.cell' (i := 5) rfl
    go_simp; try (with_reducible rfl)
  try simp only [Act.put, List.getElem_toArray, List.getElem_cons_succ, List.getElem_cons_zero, List.setIfInBounds_toArray, List.set_cons_zero, List.set_cons_succ]
  refine wpAnyH_take (i := 1) (v := ?_) rfl (by kernel_rfl) (by kernel_rfl) (by kernel_rfl) (fun _ _ _ h => h) (Or.inl ⟨by kernel_rfl, ?_⟩) hHeld ?_
  rotate_left
  · intro w' hSw; try dsimp only at hSw
    have d0 := hSw.1.cell' (i := 0) rfl
    have d1 := hSw.1.cell' (i := 1) rfl
    have d2 := hSw.1.cell' (i := 2) rfl
    have d3 := hSw.1.cell' (i := 3) rfl
    have u0 := hSw.2.cell' (i := 0) rfl
    have u1 := hSw.2.cell' (i := 1) rfl
    have u2 := hSw.2.cell' (i := 2) rfl
    have u3 := hSw.2.cell' (i := 3) rfl
    have u4 := hSw.2.cell' (i := 4) rfl
    have u5 := hSw.2.cell' (i := 5) rfl
    go_simp; try (with_reducible rfl)
  try simp only [Act.put, List.getElem_toArray, List.getElem_cons_succ, List.getElem_cons_zero, List.setIfInBounds_toArray, List.set_cons_zero, List.set_cons_succ]
  refine wpAnyH_take (i := 2) (v := ?_) rfl (by kernel_rfl) (by kernel_rfl) (by kernel_rfl) (fun _ _ _ h => h) (Or.inl ⟨by kernel_rfl, ?_⟩) hHeld ?_
  rotate_left
  · intro w' hSw; try dsimp only at hSw
    have d0 := hSw.1.cell' (i := 0) rfl
    have d1 := hSw.1.cell' (i := 1) rfl
    have d2 := hSw.1.cell' (i := 2) rfl
    have d3 := hSw.1.cell' (i := 3) rfl
    have u0 := hSw.2.cell' (i := 0) rfl
    have u1 := hSw.2.cell' (i := 1) rfl
    have u2 := hSw.2.cell' (i := 2) rfl
    have u3 := hSw.2.cell' (i := 3) rfl
    have u4 := hSw.2.cell' (i := 4) rfl
    have u5 := hSw.2.cell' (i := 5) rfl
    go_simp; try (with_reducible rfl)
  try simp only [Act.put, List.getElem_toArray, List.getElem_cons_succ, List.getElem_cons_zero, List.setIfInBounds_toArray, List.set_cons_zero, List.set_cons_succ]
  refine wpAnyH_take (i := 3) (v := ?_) rfl (by kernel_rfl) (by kernel_rfl) (by kernel_rfl) (fun _ _ _ h => h) (Or.inl ⟨by kernel_rfl, ?_⟩) hHeld ?_
  rotate_left
  · intro w' hSw; try dsimp only at hSw
    have d0 := hSw.1.cell' (i := 0) rfl
    have d1 := hSw.1.cell' (i := 1) rfl
    have d2 := hSw.1.cell' (i := 2) rfl
    have d3 := hSw.1.cell' (i := 3) rfl
    have u0 := hSw.2.cell' (i := 0) rfl
    have u1 := hSw.2.cell' (i := 1) rfl
    have u2 := hSw.2.cell' (i := 2) rfl
    have u3 := hSw.2.cell' (i := 3) rfl
    have u4 := hSw.2.cell' (i := 4) rfl
    have u5 := hSw.2.cell' (i := 5) rfl
    go_simp; try (with_reducible rfl)
  try simp only [Act.put, List.getElem_toArray, List.getElem_cons_succ, List.getElem_cons_zero, List.setIfInBounds_toArray, List.set_cons_zero, List.set_cons_succ]
  refine wpAnyH_take (i := 4) (v := ?_) rfl (by kernel_rfl) (by kernel_rfl) (by kernel_rfl) (fun _ _ _ h => h) (Or.inl ⟨by kernel_rfl, ?_⟩) hHeld ?_
  rotate_left
  · intro w' hSw; try dsimp only at hSw
    have d0 := hSw.1.cell' (i := 0) rfl
    have d1 := hSw.1.cell' (i := 1) rfl
    have d2 := hSw.1.cell' (i := 2) rfl
    have d3 := hSw.1.cell' (i := 3) rfl
    have u0 := hSw.2.cell' (i := 0) rfl
    have u1 := hSw.2.cell' (i := 1) rfl
    have u2 := hSw.2.cell' (i := 2) rfl
    have u3 := hSw.2.cell' (i := 3) rfl
    have u4 := hSw.2.cell' (i := 4) rfl
    have u5 := hSw.2.cell' (i := 5) rfl
    go_simp; try (with_reducible rfl)
  try simp only [Act.put, List.getElem_toArray, List.getElem_cons_succ, List.getElem_cons_zero, List.setIfInBounds_toArray, List.set_cons_zero, List.set_cons_succ]
  refine wpAnyH_take (i := 5) (v := ?_) rfl (by kernel_rfl) (by kernel_rfl) (by kernel_rfl) (fun _ _ _ h => h) (Or.inl ⟨by kernel_rfl, ?_⟩) hHeld ?_
  rotate_left
  · intro w' hSw; try dsimp only at hSw
    have d0 := hSw.1.cell' (i := 0) rfl
    have d1 := hSw.1.cell' (i := 1) rfl
    have d2 := hSw.1.cell' (i := 2) rfl
    have d3 := hSw.1.cell' (i := 3) rfl
    have u0 := hSw.2.cell' (i := 0) rfl
    have u1 := hSw.2.cell' (i := 1) rfl
    have u2 := hSw.2.cell' (i := 2) rfl
    have u3 := hSw.2.cell' (i := 3) rfl
    have u4 := hSw.2.cell' (i := 4) rfl
    have u5 := hSw.2.cell' (i := 5) rfl
    go_simp; try (with_reducible rfl)
  try simp only [Act.put, List.getElem_toArray, List.getElem_cons_succ, List.getElem_cons_zero, List.setIfInBounds_toArray, List.set_cons_zero, List.set_cons_succ]
  refine wpAnyH_ready (rs := [6]) (by kernel_rfl) (by simp) ?_
  refine AllReadyH.cons rfl (fun K hK => ?_) AllReadyH.nil
  go_simp
  refine (h2 _ Q1d).mono ?_
  rintro e w2 ⟨pb, nb, cb, rfl, hib, q1, E2, hP2, hR2⟩
  refine hK.out _ _ ⟨hHeld.1.keep E2.keep (Q1d.apart hHeld.1 (by decide) (by decide) (by decide) (by decide) (by decide) (by decide)), hHeld.2.keep E2.keep (Q1d.apart hHeld.2 (by decide) (by decide) (by decide) (by decide) (by decide) (by decide))⟩ (fun hHeld => ?_)
  clear hK K
  try simp only [Act.put, List.getElem_toArray, List.getElem_cons_succ, List.getElem_cons_zero, List.setIfInBounds_toArray, List.set_cons_zero, List.set_cons_succ]
  refine wpAnyH_take (i := 7) (v := ?_) rfl (by kernel_rfl) (by kernel_rfl) (by kernel_rfl) (fun _ _ _ h => h) (Or.inl ⟨by kernel_rfl, ?_⟩) hHeld ?_
  rotate_left
  · intro w' hSw; try dsimp only at hSw
    go_simp; try (with_reducible rfl)
  try simp only [Act.put, List.getElem_toArray, List.getElem_cons_succ, List.getElem_cons_zero, List.setIfInBounds_toArray, List.set_cons_zero, List.set_cons_succ]
  refine wpAnyH_take (i := 8) (v := ?_) rfl (by kernel_rfl) (by kernel_rfl) (by kernel_rfl) (fun _ _ _ h => h) (Or.inl ⟨by kernel_rfl, ?_⟩) hHeld ?_
  rotate_left
  · intro w' hSw; try dsimp only at hSw
    go_simp; try (with_reducible rfl)
  try simp only [Act.put, List.getElem_toArray, List.getElem_cons_succ, List.getElem_cons_zero, List.setIfInBounds_toArray, List.set_cons_zero, List.set_cons_succ]
  refine wpAnyH_take (i := 9) (v := ?_) rfl (by kernel_rfl) (by kernel_rfl) (by kernel_rfl) (fun _ _ _ h => h) (Or.inl ⟨by kernel_rfl, ?_⟩) hHeld ?_
  rotate_left
  · intro w' hSw; try dsimp only at hSw
    go_simp; try (with_reducible rfl)
  try simp only [Act.put, List.getElem_toArray, List.getElem_cons_succ, List.getElem_cons_zero, List.setIfInBounds_toArray, List.set_cons_zero, List.set_cons_succ]
  refine wpAnyH_take (i := 10) (v := ?_) rfl (by kernel_rfl) (by kernel_rfl) (by kernel_rfl) (fun _ _ _ h => h) (Or.inl ⟨by kernel_rfl, ?_⟩) hHeld ?_
  rotate_left
  · intro w' hSw; try dsimp only at hSw
    go_simp; try (with_reducible rfl)
  try simp only [Act.put, List.getElem_toArray, List.getElem_cons_succ, List.getElem_cons_zero, List.setIfInBounds_toArray, List.set_cons_zero, List.set_cons_succ]
  refine wpAnyH_take (i := 11) (v := ?_) rfl (by kernel_rfl) (by kernel_rfl) (by kernel_rfl) (fun _ _ _ h => h) (Or.inl ⟨by kernel_rfl, ?_⟩) hHeld ?_
  rotate_left
  · intro w' hSw; try dsimp only at hSw
    go_simp; try (with_reducible rfl)
  try simp only [Act.put, List.getElem_toArray, List.getElem_cons_succ, List.getElem_cons_zero, List.setIfInBounds_toArray, List.set_cons_zero, List.set_cons_succ]
  refine wpAnyH_done (by kernel_rfl) ?_ _
  refine NoPanic.normal ?_
  clear hHeld
  have hda := E2.dat Q1d hd1
  have E3 := E2.drop ((Below.refl _ w1).drew)
  go_wp2_with (go_at_call 19; refine (equal_any pa pb D.length ca nb cb D D _ hda.1 hib).mono ?_; rintro e w' ⟨rfl, hw'⟩; have hw2 := hw'.symm; subst hw2; clear hw'; rw [show (D == D) = true from by simp])
  go_ret
  obtain ⟨T2, hb2⟩ := T0.bothC (M := N + 1) A E3 (by rw [hP2, hP1]) (by rw [hD1, hR2]; exact HE3.out) (by rw [hP1, hD1]; exact hpi)
  exact ⟨ret_bool (by simp), c1, q1, T2, (BelC.of hb0.drew T.le).trans hb2, A.d, E2.g⟩
set_option linter.unusedSimpArgs false in
set_option linter.unusedVariables false in
set_option maxRecDepth 100000 in
set_option maxHeartbeats 4000000 in
theorem does_write {B0 : Nat} {w : World} {tw : Nat} {c : CS} {q : QS} {N : Nat} (T : Twin B0 w tw c q N) (hN : N ≤ 900) (i : Int) (f : Nat) (cl : Int) (p : Option Addr) (n cc : Nat) (cut : Int) (hf : f < 256) (hf2 : f ≠ 255) : Calls Tryz.prog 9 #[.pointer (some ⟨tw, 0, none⟩), .agg #[.int .i64 1, .int .i64 i, .int .u8 (f : Int), .int .i64 cl, .slice p n cc, .int .i64 cut]] w (DoesOk B0 tw c q N w) := by
  have hb0 := below_alloc w (.cells #[.int .i64 1, .int .i64 i, .int .u8 (f : Int), .int .i64 cl, .slice p n cc, .int .i64 cut] 42)
  have g3 := Blk.new' w 42 #[.int .i64 1, .int .i64 i, .int .u8 (f : Int), .int .i64 cl, .slice p n cc, .int .i64 cut]
  have k0 := g3.cell' (i := 0) rfl
  have k2 := g3.cell' (i := 2) rfl
  have hfl := filled_any f hf (w.alloc (.cells #[.int .i64 1, .int .i64 i, .int .u8 (f : Int), .int .i64 cl, .slice p n cc, .int .i64 cut] 42))
  have hf255 : ((f : Int) == 255) = false := by simp; omega
  go_enter Tryz.func9, Tryz.ntmps9
  go_wp2_with fail
  refine hfl.mono ?_
  rintro e wf ⟨gb, rfl, hif, huf, hbf, hgf⟩
  have T1 := T.below (bt hb0 hbf)
  have g31 := g3.kept hbf
  have k21 := g31.cell' (i := 2) rfl
  have T0 := T1.below ((Below.refl _ wf).drew)
  have tb1 := T0.tb
  have hbB1 : Below B0 w wf.drew := ((bt hb0 hbf).drew).mono T.le
  obtain ⟨PB, NB, CB, DB, hPB⟩ : ∃ PB NB CB DB, PB = (some ⟨gb, 0, none⟩ : Option Addr) ∧ NB = 256 ∧ CB = 256 ∧ DB = cyc [f] 256 := ⟨_, _, _, _, rfl, rfl, rfl, rfl⟩
  obtain ⟨rfl, rfl, rfl, rfl⟩ := hPB
  have hd0 : In wf.drew (some ⟨gb, 0, none⟩) 256 256 (cyc [f] 256) ∧ U8 wf.drew (some ⟨gb, 0, none⟩) := ⟨hif.below ((Below.refl _ _).drew), huf⟩
  obtain ⟨E, P1, D1, hpi, h1, h2⟩ := write_two T0 hN i (some ⟨gb, 0, none⟩) 256 256 (cyc [f] 256) hd0 cl
  clear hfl
  go_wp2
  refine wp_region_noPanic ?_
  refine wp_region_held_drew (S := (fun X => Blk X tw 39 [.pointer (some ⟨c.d, 0, none⟩), .pointer (some ⟨c.c, 0, none⟩), .pointer (some ⟨q.g, 0, none⟩), .pointer (some ⟨q.q, 0, none⟩)] ∧ Blk X w.heap.size 42 [.int .i64 1, .int .i64 i, .int .u8 (f : Int), .int .i64 cl, .slice p n cc, .int .i64 cut])) (by kernel_rfl) ⟨tb1, g31.drew⟩ (fun hHeld => ?_)
  refine wpAnyH_take (i := 0) (v := ?_) rfl (by kernel_rfl) (by kernel_rfl) (by kernel_rfl) (fun _ _ _ h => h) (Or.inl ⟨by kernel_rfl, ?_⟩) hHeld ?_
  rotate_left
  · intro w' hSw; try dsimp only at hSw
    have d0 := hSw.1.cell' (i := 0) rfl
    have d1 := hSw.1.cell' (i := 1) rfl
    have d2 := hSw.1.cell' (i := 2) rfl
    have d3 := hSw.1.cell' (i := 3) rfl
    have u0 := hSw.2.cell' (i := 0) rfl
    have u1 := hSw.2.cell' (i := 1) rfl
    have u2 := hSw.2.cell' (i := 2) rfl
    have u3 := hSw.2.cell' (i := 3) rfl
    have u4 := hSw.2.cell' (i := 4) rfl
    have u5 := hSw.2.cell' (i := 5) rfl
    go_simp; try (with_reducible rfl)
  try simp only [Act.put, List.getElem_toArray, List.getElem_cons_succ, List.getElem_cons_zero, List.setIfInBounds_toArray, List.set_cons_zero, List.set_cons_succ]
  refine wpAnyH_take (i := 1) (v := ?_) rfl (by kernel_rfl) (by kernel_rfl) (by kernel_rfl) (fun _ _ _ h => h) (Or.inl ⟨by kernel_rfl, ?_⟩) hHeld ?_
  rotate_left
  · intro w' hSw; try dsimp only at hSw
    have d0 := hSw.1.cell' (i := 0) rfl
    have d1 := hSw.1.cell' (i := 1) rfl
    have d2 := hSw.1.cell' (i := 2) rfl
    have d3 := hSw.1.cell' (i := 3) rfl
    have u0 := hSw.2.cell' (i := 0) rfl
    have u1 := hSw.2.cell' (i := 1) rfl
    have u2 := hSw.2.cell' (i := 2) rfl
    have u3 := hSw.2.cell' (i := 3) rfl
    have u4 := hSw.2.cell' (i := 4) rfl
    have u5 := hSw.2.cell' (i := 5) rfl
    go_simp; try (with_reducible rfl)
  try simp only [Act.put, List.getElem_toArray, List.getElem_cons_succ, List.getElem_cons_zero, List.setIfInBounds_toArray, List.set_cons_zero, List.set_cons_succ]
  refine wpAnyH_take (i := 2) (v := ?_) rfl (by kernel_rfl) (by kernel_rfl) (by kernel_rfl) (fun _ _ _ h => h) (Or.inl ⟨by kernel_rfl, ?_⟩) hHeld ?_
  rotate_left
  · intro w' hSw; try dsimp only at hSw
    have d0 := hSw.1.cell' (i := 0) rfl
    have d1 := hSw.1.cell' (i := 1) rfl
    have d2 := hSw.1.cell' (i := 2) rfl
    have d3 := hSw.1.cell' (i := 3) rfl
    have u0 := hSw.2.cell' (i := 0) rfl
    have u1 := hSw.2.cell' (i := 1) rfl
    have u2 := hSw.2.cell' (i := 2) rfl
    have u3 := hSw.2.cell' (i := 3) rfl
    have u4 := hSw.2.cell' (i := 4) rfl
    have u5 := hSw.2.cell' (i := 5) rfl
    go_simp; try (with_reducible rfl)
  try simp only [Act.put, List.getElem_toArray, List.getElem_cons_succ, List.getElem_cons_zero, List.setIfInBounds_toArray, List.set_cons_zero, List.set_cons_succ]
  refine wpAnyH_take (i := 3) (v := ?_) rfl (by kernel_rfl) (by kernel_rfl) (by kernel_rfl) (fun _ _ _ h => h) (Or.inl ⟨by kernel_rfl, ?_⟩) hHeld ?_
  rotate_left
  · intro w' hSw; try dsimp only at hSw
    have d0 := hSw.1.cell' (i := 0) rfl
    have d1 := hSw.1.cell' (i := 1) rfl
    have d2 := hSw.1.cell' (i := 2) rfl
    have d3 := hSw.1.cell' (i := 3) rfl
    have u0 := hSw.2.cell' (i := 0) rfl
    have u1 := hSw.2.cell' (i := 1) rfl
    have u2 := hSw.2.cell' (i := 2) rfl
    have u3 := hSw.2.cell' (i := 3) rfl
    have u4 := hSw.2.cell' (i := 4) rfl
    have u5 := hSw.2.cell' (i := 5) rfl
    go_simp; try (with_reducible rfl)
  try simp only [Act.put, List.getElem_toArray, List.getElem_cons_succ, List.getElem_cons_zero, List.setIfInBounds_toArray, List.set_cons_zero, List.set_cons_succ]
  refine wpAnyH_take (i := 4) (v := ?_) rfl (by kernel_rfl) (by kernel_rfl) (by kernel_rfl) (fun _ _ _ h => h) (Or.inl ⟨by kernel_rfl, ?_⟩) hHeld ?_
  rotate_left
  · intro w' hSw; try dsimp only at hSw
    have d0 := hSw.1.cell' (i := 0) rfl
    have d1 := hSw.1.cell' (i := 1) rfl
    have d2 := hSw.1.cell' (i := 2) rfl
    have d3 := hSw.1.cell' (i := 3) rfl
    have u0 := hSw.2.cell' (i := 0) rfl
    have u1 := hSw.2.cell' (i := 1) rfl
    have u2 := hSw.2.cell' (i := 2) rfl
    have u3 := hSw.2.cell' (i := 3) rfl
    have u4 := hSw.2.cell' (i := 4) rfl
    have u5 := hSw.2.cell' (i := 5) rfl
    go_simp; try (with_reducible rfl)
  try simp only [Act.put, List.getElem_toArray, List.getElem_cons_succ, List.getElem_cons_zero, List.setIfInBounds_toArray, List.set_cons_zero, List.set_cons_succ]
  refine wpAnyH_take (i := 5) (v := ?_) rfl (by kernel_rfl) (by kernel_rfl) (by kernel_rfl) (fun _ _ _ h => h) (Or.inl ⟨by kernel_rfl, ?_⟩) hHeld ?_
  rotate_left
  · intro w' hSw; try dsimp only at hSw
    have d0 := hSw.1.cell' (i := 0) rfl
    have d1 := hSw.1.cell' (i := 1) rfl
    have d2 := hSw.1.cell' (i := 2) rfl
    have d3 := hSw.1.cell' (i := 3) rfl
    have u0 := hSw.2.cell' (i := 0) rfl
    have u1 := hSw.2.cell' (i := 1) rfl
    have u2 := hSw.2.cell' (i := 2) rfl
    have u3 := hSw.2.cell' (i := 3) rfl
    have u4 := hSw.2.cell' (i := 4) rfl
    have u5 := hSw.2.cell' (i := 5) rfl
    go_simp; try (with_reducible rfl)
  try simp only [Act.put, List.getElem_toArray, List.getElem_cons_succ, List.getElem_cons_zero, List.setIfInBounds_toArray, List.set_cons_zero, List.set_cons_succ]
  refine wpAnyH_take (i := 6) (v := ?_) rfl (by kernel_rfl) (by kernel_rfl) (by kernel_rfl) (fun _ _ _ h => h) (Or.inl ⟨by kernel_rfl, ?_⟩) hHeld ?_
  rotate_left
  · intro w' hSw; try dsimp only at hSw
    have d0 := hSw.1.cell' (i := 0) rfl
    have d1 := hSw.1.cell' (i := 1) rfl
    have d2 := hSw.1.cell' (i := 2) rfl
    have d3 := hSw.1.cell' (i := 3) rfl
    have u0 := hSw.2.cell' (i := 0) rfl
    have u1 := hSw.2.cell' (i := 1) rfl
    have u2 := hSw.2.cell' (i := 2) rfl
    have u3 := hSw.2.cell' (i := 3) rfl
    have u4 := hSw.2.cell' (i := 4) rfl
    have u5 := hSw.2.cell' (i := 5) rfl
    go_simp; try (with_reducible rfl)
  try simp only [Act.put, List.getElem_toArray, List.getElem_cons_succ, List.getElem_cons_zero, List.setIfInBounds_toArray, List.set_cons_zero, List.set_cons_succ]
  refine wpAnyH_take (i := 7) (v := ?_) rfl (by kernel_rfl) (by kernel_rfl) (by kernel_rfl) (fun _ _ _ h => h) (Or.inl ⟨by kernel_rfl, ?_⟩) hHeld ?_
  rotate_left
  · intro w' hSw; try dsimp only at hSw
    have d0 := hSw.1.cell' (i := 0) rfl
    have d1 := hSw.1.cell' (i := 1) rfl
    have d2 := hSw.1.cell' (i := 2) rfl
    have d3 := hSw.1.cell' (i := 3) rfl
    have u0 := hSw.2.cell' (i := 0) rfl
    have u1 := hSw.2.cell' (i := 1) rfl
    have u2 := hSw.2.cell' (i := 2) rfl
    have u3 := hSw.2.cell' (i := 3) rfl
    have u4 := hSw.2.cell' (i := 4) rfl
    have u5 := hSw.2.cell' (i := 5) rfl
    go_simp; try (with_reducible rfl)
  try simp only [Act.put, List.getElem_toArray, List.getElem_cons_succ, List.getElem_cons_zero, List.setIfInBounds_toArray, List.set_cons_zero, List.set_cons_succ]
  refine wpAnyH_take (i := 8) (v := ?_) rfl (by kernel_rfl) (by kernel_rfl) (by kernel_rfl) (fun _ _ _ h => h) (Or.inl ⟨by kernel_rfl, ?_⟩) hHeld ?_
  rotate_left
  · intro w' hSw; try dsimp only at hSw
    have d0 := hSw.1.cell' (i := 0) rfl
    have d1 := hSw.1.cell' (i := 1) rfl
    have d2 := hSw.1.cell' (i := 2) rfl
    have d3 := hSw.1.cell' (i := 3) rfl
    have u0 := hSw.2.cell' (i := 0) rfl
    have u1 := hSw.2.cell' (i := 1) rfl
    have u2 := hSw.2.cell' (i := 2) rfl
    have u3 := hSw.2.cell' (i := 3) rfl
    have u4 := hSw.2.cell' (i := 4) rfl
    have u5 := hSw.2.cell' (i := 5) rfl
    go_simp; try (with_reducible rfl)
  try simp only [Act.put, List.getElem_toArray, List.getElem_cons_succ, List.getElem_cons_zero, List.setIfInBounds_toArray, List.set_cons_zero, List.set_cons_succ]
  refine wpAnyH_take (i := 10) (v := ?_) rfl (by kernel_rfl) (by kernel_rfl) (by kernel_rfl) (fun _ _ _ h => h) (Or.inl ⟨by kernel_rfl, ?_⟩) hHeld ?_
  rotate_left
  · intro w' hSw; try dsimp only at hSw
    have d0 := hSw.1.cell' (i := 0) rfl
    have d1 := hSw.1.cell' (i := 1) rfl
    have d2 := hSw.1.cell' (i := 2) rfl
    have d3 := hSw.1.cell' (i := 3) rfl
    have u0 := hSw.2.cell' (i := 0) rfl
    have u1 := hSw.2.cell' (i := 1) rfl
    have u2 := hSw.2.cell' (i := 2) rfl
    have u3 := hSw.2.cell' (i := 3) rfl
    have u4 := hSw.2.cell' (i := 4) rfl
    have u5 := hSw.2.cell' (i := 5) rfl
    go_simp; try (with_reducible rfl)
  try simp only [Act.put, List.getElem_toArray, List.getElem_cons_succ, List.getElem_cons_zero, List.setIfInBounds_toArray, List.set_cons_zero, List.set_cons_succ]
  refine wpAnyH_take (i := 11) (v := ?_) rfl (by kernel_rfl) (by kernel_rfl) (by kernel_rfl) (fun _ _ _ h => h) (Or.inl ⟨by kernel_rfl, ?_⟩) hHeld ?_
  rotate_left
  · intro w' hSw; try dsimp only at hSw
    have d0 := hSw.1.cell' (i := 0) rfl
    have d1 := hSw.1.cell' (i := 1) rfl
    have d2 := hSw.1.cell' (i := 2) rfl
    have d3 := hSw.1.cell' (i := 3) rfl
    have u0 := hSw.2.cell' (i := 0) rfl
    have u1 := hSw.2.cell' (i := 1) rfl
    have u2 := hSw.2.cell' (i := 2) rfl
    have u3 := hSw.2.cell' (i := 3) rfl
    have u4 := hSw.2.cell' (i := 4) rfl
    have u5 := hSw.2.cell' (i := 5) rfl
    go_simp; try (with_reducible rfl)
  try simp only [Act.put, List.getElem_toArray, List.getElem_cons_succ, List.getElem_cons_zero, List.setIfInBounds_toArray, List.set_cons_zero, List.set_cons_succ]
  refine wpAnyH_take (i := 12) (v := ?_) rfl (by kernel_rfl) (by kernel_rfl) (by kernel_rfl) (fun _ _ _ h => h) (Or.inl ⟨by kernel_rfl, ?_⟩) hHeld ?_
  rotate_left
  · intro w' hSw; try dsimp only at hSw
    have d0 := hSw.1.cell' (i := 0) rfl
    have d1 := hSw.1.cell' (i := 1) rfl
    have d2 := hSw.1.cell' (i := 2) rfl
    have d3 := hSw.1.cell' (i := 3) rfl
    have u0 := hSw.2.cell' (i := 0) rfl
    have u1 := hSw.2.cell' (i := 1) rfl
    have u2 := hSw.2.cell' (i := 2) rfl
    have u3 := hSw.2.cell' (i := 3) rfl
    have u4 := hSw.2.cell' (i := 4) rfl
    have u5 := hSw.2.cell' (i := 5) rfl
    go_simp; try (with_reducible rfl)
  try simp only [Act.put, List.getElem_toArray, List.getElem_cons_succ, List.getElem_cons_zero, List.setIfInBounds_toArray, List.set_cons_zero, List.set_cons_succ]
  refine wpAnyH_take (i := 13) (v := ?_) rfl (by kernel_rfl) (by kernel_rfl) (by kernel_rfl) (fun _ _ _ h => h) (Or.inl ⟨by kernel_rfl, ?_⟩) hHeld ?_
  rotate_left
  · intro w' hSw; try dsimp only at hSw
    have d0 := hSw.1.cell' (i := 0) rfl
    have d1 := hSw.1.cell' (i := 1) rfl
    have d2 := hSw.1.cell' (i := 2) rfl
    have d3 := hSw.1.cell' (i := 3) rfl
    have u0 := hSw.2.cell' (i := 0) rfl
    have u1 := hSw.2.cell' (i := 1) rfl
    have u2 := hSw.2.cell' (i := 2) rfl
    have u3 := hSw.2.cell' (i := 3) rfl
    have u4 := hSw.2.cell' (i := 4) rfl
    have u5 := hSw.2.cell' (i := 5) rfl
    go_simp; try (with_reducible rfl)
  try simp only [Act.put, List.getElem_toArray, List.getElem_cons_succ, List.getElem_cons_zero, List.setIfInBounds_toArray, List.set_cons_zero, List.set_cons_succ]
  refine wpAnyH_take (i := 14) (v := ?_) rfl (by kernel_rfl) (by kernel_rfl) (by kernel_rfl) (fun _ _ _ h => h) (Or.inl ⟨by kernel_rfl, ?_⟩) hHeld ?_
  rotate_left
  · intro w' hSw; try dsimp only at hSw
    have d0 := hSw.1.cell' (i := 0) rfl
    have d1 := hSw.1.cell' (i := 1) rfl
    have d2 := hSw.1.cell' (i := 2) rfl
    have d3 := hSw.1.cell' (i := 3) rfl
    have u0 := hSw.2.cell' (i := 0) rfl
    have u1 := hSw.2.cell' (i := 1) rfl
    have u2 := hSw.2.cell' (i := 2) rfl
    have u3 := hSw.2.cell' (i := 3) rfl
    have u4 := hSw.2.cell' (i := 4) rfl
    have u5 := hSw.2.cell' (i := 5) rfl
    go_simp; try (with_reducible rfl)
  try simp only [Act.put, List.getElem_toArray, List.getElem_cons_succ, List.getElem_cons_zero, List.setIfInBounds_toArray, List.set_cons_zero, List.set_cons_succ]
  refine wpAnyH_take (i := 15) (v := ?_) rfl (by kernel_rfl) (by kernel_rfl) (by kernel_rfl) (fun _ _ _ h => h) (Or.inl ⟨by kernel_rfl, ?_⟩) hHeld ?_
  rotate_left
  · intro w' hSw; try dsimp only at hSw
    have d0 := hSw.1.cell' (i := 0) rfl
    have d1 := hSw.1.cell' (i := 1) rfl
    have d2 := hSw.1.cell' (i := 2) rfl
    have d3 := hSw.1.cell' (i := 3) rfl
    have u0 := hSw.2.cell' (i := 0) rfl
    have u1 := hSw.2.cell' (i := 1) rfl
    have u2 := hSw.2.cell' (i := 2) rfl
    have u3 := hSw.2.cell' (i := 3) rfl
    have u4 := hSw.2.cell' (i := 4) rfl
    have u5 := hSw.2.cell' (i := 5) rfl
    go_simp; try (with_reducible rfl)
  try simp only [Act.put, List.getElem_toArray, List.getElem_cons_succ, List.getElem_cons_zero, List.setIfInBounds_toArray, List.set_cons_zero, List.set_cons_succ]
  refine wpAnyH_take (i := 16) (v := ?_) rfl (by kernel_rfl) (by kernel_rfl) (by kernel_rfl) (fun _ _ _ h => h) (Or.inl ⟨by kernel_rfl, ?_⟩) hHeld ?_
  rotate_left
  · intro w' hSw; try dsimp only at hSw
    have d0 := hSw.1.cell' (i := 0) rfl
    have d1 := hSw.1.cell' (i := 1) rfl
    have d2 := hSw.1.cell' (i := 2) rfl
    have d3 := hSw.1.cell' (i := 3) rfl
    have u0 := hSw.2.cell' (i := 0) rfl
    have u1 := hSw.2.cell' (i := 1) rfl
    have u2 := hSw.2.cell' (i := 2) rfl
    have u3 := hSw.2.cell' (i := 3) rfl
    have u4 := hSw.2.cell' (i := 4) rfl
    have u5 := hSw.2.cell' (i := 5) rfl
    go_simp; try (with_reducible rfl)
  try simp only [Act.put, List.getElem_toArray, List.getElem_cons_succ, List.getElem_cons_zero, List.setIfInBounds_toArray, List.set_cons_zero, List.set_cons_succ]
  refine wpAnyH_take (i := 17) (v := ?_) rfl (by kernel_rfl) (by kernel_rfl) (by kernel_rfl) (fun _ _ _ h => h) (Or.inl ⟨by kernel_rfl, ?_⟩) hHeld ?_
  rotate_left
  · intro w' hSw; try dsimp only at hSw
    have d0 := hSw.1.cell' (i := 0) rfl
    have d1 := hSw.1.cell' (i := 1) rfl
    have d2 := hSw.1.cell' (i := 2) rfl
    have d3 := hSw.1.cell' (i := 3) rfl
    have u0 := hSw.2.cell' (i := 0) rfl
    have u1 := hSw.2.cell' (i := 1) rfl
    have u2 := hSw.2.cell' (i := 2) rfl
    have u3 := hSw.2.cell' (i := 3) rfl
    have u4 := hSw.2.cell' (i := 4) rfl
    have u5 := hSw.2.cell' (i := 5) rfl
    go_simp; try (with_reducible rfl)
  try simp only [Act.put, List.getElem_toArray, List.getElem_cons_succ, List.getElem_cons_zero, List.setIfInBounds_toArray, List.set_cons_zero, List.set_cons_succ]
  refine wpAnyH_take (i := 18) (v := ?_) rfl (by kernel_rfl) (by kernel_rfl) (by kernel_rfl) (fun _ _ _ h => h) (Or.inl ⟨by kernel_rfl, ?_⟩) hHeld ?_
  rotate_left
  · intro w' hSw; try dsimp only at hSw
    have d0 := hSw.1.cell' (i := 0) rfl
    have d1 := hSw.1.cell' (i := 1) rfl
    have d2 := hSw.1.cell' (i := 2) rfl
    have d3 := hSw.1.cell' (i := 3) rfl
    have u0 := hSw.2.cell' (i := 0) rfl
    have u1 := hSw.2.cell' (i := 1) rfl
    have u2 := hSw.2.cell' (i := 2) rfl
    have u3 := hSw.2.cell' (i := 3) rfl
    have u4 := hSw.2.cell' (i := 4) rfl
    have u5 := hSw.2.cell' (i := 5) rfl
    go_simp; try (with_reducible rfl)
  try simp only [Act.put, List.getElem_toArray, List.getElem_cons_succ, List.getElem_cons_zero, List.setIfInBounds_toArray, List.set_cons_zero, List.set_cons_succ]
  refine wpAnyH_ready (rs := [9]) (by kernel_rfl) (by simp) ?_
  refine AllReadyH.cons rfl (fun K hK => ?_) AllReadyH.nil
  go_simp
  refine h1.mono ?_
  rintro e w1 ⟨rfl, c1, A, hP1, hD1⟩
  have Q1 := T0.Q.keepC T0.C A.keep
  have hd1 := A.dat T0.C hd0
  refine hK.out _ _ ⟨A.blk T0.C hHeld.1 (by decide) (by decide) (by decide) (by decide), A.blk T0.C hHeld.2 (by decide) (by decide) (by decide) (by decide)⟩ (fun hHeld => ?_)
  clear hK K
  try simp only [Act.put, List.getElem_toArray, List.getElem_cons_succ, List.getElem_cons_zero, List.setIfInBounds_toArray, List.set_cons_zero, List.set_cons_succ]
  refine wpAnyH_ready (rs := [19]) (by kernel_rfl) (by simp) ?_
  refine AllReadyH.cons rfl (fun K hK => ?_) AllReadyH.nil
  go_simp
  refine (h2 _ Q1 hd1).mono ?_
  rintro e w2 ⟨rfl, q1, E2, hP2, hR2⟩
  refine hK.out _ _ ⟨hHeld.1.keep E2.keep (Q1.apart hHeld.1 (by decide) (by decide) (by decide) (by decide) (by decide) (by decide)), hHeld.2.keep E2.keep (Q1.apart hHeld.2 (by decide) (by decide) (by decide) (by decide) (by decide) (by decide))⟩ (fun hHeld => ?_)
  clear hK K
  try simp only [Act.put, List.getElem_toArray, List.getElem_cons_succ, List.getElem_cons_zero, List.setIfInBounds_toArray, List.set_cons_zero, List.set_cons_succ]
  refine wpAnyH_take (i := 20) (v := ?_) rfl (by kernel_rfl) (by kernel_rfl) (by kernel_rfl) (fun _ _ _ h => h) (Or.inl ⟨by kernel_rfl, ?_⟩) hHeld ?_
  rotate_left
  · intro w' hSw; try dsimp only at hSw
    go_simp; try (with_reducible rfl)
  try simp only [Act.put, List.getElem_toArray, List.getElem_cons_succ, List.getElem_cons_zero, List.setIfInBounds_toArray, List.set_cons_zero, List.set_cons_succ]
  refine wpAnyH_take (i := 21) (v := ?_) rfl (by kernel_rfl) (by kernel_rfl) (by kernel_rfl) (fun _ _ _ h => h) (Or.inl ⟨by kernel_rfl, ?_⟩) hHeld ?_
  rotate_left
  · intro w' hSw; try dsimp only at hSw
    go_simp; try (with_reducible rfl)
  try simp only [Act.put, List.getElem_toArray, List.getElem_cons_succ, List.getElem_cons_zero, List.setIfInBounds_toArray, List.set_cons_zero, List.set_cons_succ]
  refine wpAnyH_done (by kernel_rfl) ?_ _
  refine NoPanic.normal ?_
  clear hHeld
  go_wp2
  go_ret
  obtain ⟨T2, hb2⟩ := T0.bothC (M := N + 1) A E2 (by rw [hP2, hP1]) (by rw [hD1]; exact hR2) (by rw [hP1, hD1]; exact hpi)
  exact ⟨ret_bool (by simp), c1, q1, T2, (BelC.of (bt hb0 hbf).drew T.le).trans hb2, A.d, E2.g⟩
set_option linter.unusedSimpArgs false in
set_option linter.unusedVariables false in
set_option maxRecDepth 100000 in
set_option maxHeartbeats 4000000 in
theorem does_short {B0 : Nat} {w : World} {tw : Nat} {c : CS} {q : QS} {N : Nat} (T : Twin B0 w tw c q N) (hN : N ≤ 900) (i : Int) (f : Nat) (cl : Int) (p : Option Addr) (n cc : Nat) (cut : Int) (hf : f < 256) (hf2 : f = 255) : Calls Tryz.prog 9 #[.pointer (some ⟨tw, 0, none⟩), .agg #[.int .i64 1, .int .i64 i, .int .u8 (f : Int), .int .i64 cl, .slice p n cc, .int .i64 cut]] w (DoesOk B0 tw c q N w) := by
  have hb0 := below_alloc w (.cells #[.int .i64 1, .int .i64 i, .int .u8 (f : Int), .int .i64 cl, .slice p n cc, .int .i64 cut] 42)
  have g3 := Blk.new' w 42 #[.int .i64 1, .int .i64 i, .int .u8 (f : Int), .int .i64 cl, .slice p n cc, .int .i64 cut]
  have k0 := g3.cell' (i := 0) rfl
  have k2 := g3.cell' (i := 2) rfl
  have hfl := filled_any f hf (w.alloc (.cells #[.int .i64 1, .int .i64 i, .int .u8 (f : Int), .int .i64 cl, .slice p n cc, .int .i64 cut] 42))
  have hf255 : ((f : Int) == 255) = true := by simp; omega
  have HF2 : Hid (f = 255) := hf2
  clear hf2
  go_enter Tryz.func9, Tryz.ntmps9
  go_wp2_with fail
  refine hfl.mono ?_
  rintro e wf ⟨gb, rfl, hif, huf, hbf, hgf⟩
  have T1 := T.below (bt hb0 hbf)
  have g31 := g3.kept hbf
  have k21 := g31.cell' (i := 2) rfl
  have T0 := T1.below ((Below.refl _ wf).drew)
  have tb1 := T0.tb
  have hbB1 : Below B0 w wf.drew := ((bt hb0 hbf).drew).mono T.le
  have hd0 : In wf.drew (some ⟨gb, 1, none⟩) 255 255 ((cyc [f] 256).drop 1) ∧ U8 wf.drew (some ⟨gb, 1, none⟩) := ⟨(hif.below ((Below.refl _ _).drew)).tail1, fun a ha => by cases ha; exact huf ⟨gb, 0, none⟩ rfl⟩
  obtain ⟨E, P1, D1, hpi, h1, h2⟩ := write_two T0 hN i (some ⟨gb, 1, none⟩) 255 255 ((cyc [f] 256).drop 1) hd0 cl
  clear hfl
  go_wp2
  refine wp_region_noPanic ?_
  refine wp_region_held_drew (S := (fun X => Blk X tw 39 [.pointer (some ⟨c.d, 0, none⟩), .pointer (some ⟨c.c, 0, none⟩), .pointer (some ⟨q.g, 0, none⟩), .pointer (some ⟨q.q, 0, none⟩)] ∧ Blk X w.heap.size 42 [.int .i64 1, .int .i64 i, .int .u8 (f : Int), .int .i64 cl, .slice p n cc, .int .i64 cut])) (by kernel_rfl) ⟨tb1, g31.drew⟩ (fun hHeld => ?_)
  refine wpAnyH_take (i := 0) (v := ?_) rfl (by kernel_rfl) (by kernel_rfl) (by kernel_rfl) (fun _ _ _ h => h) (Or.inl ⟨by kernel_rfl, ?_⟩) hHeld ?_
  rotate_left
  · intro w' hSw; try dsimp only at hSw
    have d0 := hSw.1.cell' (i := 0) rfl
    have d1 := hSw.1.cell' (i := 1) rfl
    have d2 := hSw.1.cell' (i := 2) rfl
    have d3 := hSw.1.cell' (i := 3) rfl
    have u0 := hSw.2.cell' (i := 0) rfl
    have u1 := hSw.2.cell' (i := 1) rfl
    have u2 := hSw.2.cell' (i := 2) rfl
    have u3 := hSw.2.cell' (i := 3) rfl
    have u4 := hSw.2.cell' (i := 4) rfl
    have u5 := hSw.2.cell' (i := 5) rfl
    go_simp; try (with_reducible rfl)
  try simp only [Act.put, List.getElem_toArray, List.getElem_cons_succ, List.getElem_cons_zero, List.setIfInBounds_toArray, List.set_cons_zero, List.set_cons_succ]
  refine wpAnyH_take (i := 1) (v := ?_) rfl (by kernel_rfl) (by kernel_rfl) (by kernel_rfl) (fun _ _ _ h => h) (Or.inl ⟨by kernel_rfl, ?_⟩) hHeld ?_
  rotate_left
  · intro w' hSw; try dsimp only at hSw
    have d0 := hSw.1.cell' (i := 0) rfl
    have d1 := hSw.1.cell' (i := 1) rfl
    have d2 := hSw.1.cell' (i := 2) rfl
    have d3 := hSw.1.cell' (i := 3) rfl
    have u0 := hSw.2.cell' (i := 0) rfl
    have u1 := hSw.2.cell' (i := 1) rfl
    have u2 := hSw.2.cell' (i := 2) rfl
    have u3 := hSw.2.cell' (i := 3) rfl
    have u4 := hSw.2.cell' (i := 4) rfl
    have u5 := hSw.2.cell' (i := 5) rfl
    go_simp; try (with_reducible rfl)
  try simp only [Act.put, List.getElem_toArray, List.getElem_cons_succ, List.getElem_cons_zero, List.setIfInBounds_toArray, List.set_cons_zero, List.set_cons_succ]
  refine wpAnyH_take (i := 2) (v := ?_) rfl (by kernel_rfl) (by kernel_rfl) (by kernel_rfl) (fun _ _ _ h => h) (Or.inl ⟨by kernel_rfl, ?_⟩) hHeld ?_
  rotate_left
  · intro w' hSw; try dsimp only at hSw
    have d0 := hSw.1.cell' (i := 0) rfl
    have d1 := hSw.1.cell' (i := 1) rfl
    have d2 := hSw.1.cell' (i := 2) rfl
    have d3 := hSw.1.cell' (i := 3) rfl
    have u0 := hSw.2.cell' (i := 0) rfl
    have u1 := hSw.2.cell' (i := 1) rfl
    have u2 := hSw.2.cell' (i := 2) rfl
    have u3 := hSw.2.cell' (i := 3) rfl
    have u4 := hSw.2.cell' (i := 4) rfl
    have u5 := hSw.2.cell' (i := 5) rfl
    go_simp; try (with_reducible rfl)
  try simp only [Act.put, List.getElem_toArray, List.getElem_cons_succ, List.getElem_cons_zero, List.setIfInBounds_toArray, List.set_cons_zero, List.set_cons_succ]
  refine wpAnyH_take (i := 3) (v := ?_) rfl (by kernel_rfl) (by kernel_rfl) (by kernel_rfl) (fun _ _ _ h => h) (Or.inl ⟨by kernel_rfl, ?_⟩) hHeld ?_
  rotate_left
  · intro w' hSw; try dsimp only at hSw
    have d0 := hSw.1.cell' (i := 0) rfl
    have d1 := hSw.1.cell' (i := 1) rfl
    have d2 := hSw.1.cell' (i := 2) rfl
    have d3 := hSw.1.cell' (i := 3) rfl
    have u0 := hSw.2.cell' (i := 0) rfl
    have u1 := hSw.2.cell' (i := 1) rfl
    have u2 := hSw.2.cell' (i := 2) rfl
    have u3 := hSw.2.cell' (i := 3) rfl
    have u4 := hSw.2.cell' (i := 4) rfl
    have u5 := hSw.2.cell' (i := 5) rfl
    go_simp; try (with_reducible rfl)
  try simp only [Act.put, List.getElem_toArray, List.getElem_cons_succ, List.getElem_cons_zero, List.setIfInBounds_toArray, List.set_cons_zero, List.set_cons_succ]
  refine wpAnyH_take (i := 4) (v := ?_) rfl (by kernel_rfl) (by kernel_rfl) (by kernel_rfl) (fun _ _ _ h => h) (Or.inl ⟨by kernel_rfl, ?_⟩) hHeld ?_
  rotate_left
  · intro w' hSw; try dsimp only at hSw
    have d0 := hSw.1.cell' (i := 0) rfl
    have d1 := hSw.1.cell' (i := 1) rfl
    have d2 := hSw.1.cell' (i := 2) rfl
    have d3 := hSw.1.cell' (i := 3) rfl
    have u0 := hSw.2.cell' (i := 0) rfl
    have u1 := hSw.2.cell' (i := 1) rfl
    have u2 := hSw.2.cell' (i := 2) rfl
    have u3 := hSw.2.cell' (i := 3) rfl
    have u4 := hSw.2.cell' (i := 4) rfl
    have u5 := hSw.2.cell' (i := 5) rfl
    go_simp; try (with_reducible rfl)
  try simp only [Act.put, List.getElem_toArray, List.getElem_cons_succ, List.getElem_cons_zero, List.setIfInBounds_toArray, List.set_cons_zero, List.set_cons_succ]
  refine wpAnyH_take (i := 5) (v := ?_) rfl (by kernel_rfl) (by kernel_rfl) (by kernel_rfl) (fun _ _ _ h => h) (Or.inl ⟨by kernel_rfl, ?_⟩) hHeld ?_
  rotate_left
  · intro w' hSw; try dsimp only at hSw
    have d0 := hSw.1.cell' (i := 0) rfl
    have d1 := hSw.1.cell' (i := 1) rfl
    have d2 := hSw.1.cell' (i := 2) rfl
    have d3 := hSw.1.cell' (i := 3) rfl
    have u0 := hSw.2.cell' (i := 0) rfl
    have u1 := hSw.2.cell' (i := 1) rfl
    have u2 := hSw.2.cell' (i := 2) rfl
    have u3 := hSw.2.cell' (i := 3) rfl
    have u4 := hSw.2.cell' (i := 4) rfl
    have u5 := hSw.2.cell' (i := 5) rfl
    go_simp; try (with_reducible rfl)
  try simp only [Act.put, List.getElem_toArray, List.getElem_cons_succ, List.getElem_cons_zero, List.setIfInBounds_toArray, List.set_cons_zero, List.set_cons_succ]
  refine wpAnyH_take (i := 6) (v := ?_) rfl (by kernel_rfl) (by kernel_rfl) (by kernel_rfl) (fun _ _ _ h => h) (Or.inl ⟨by kernel_rfl, ?_⟩) hHeld ?_
  rotate_left
  · intro w' hSw; try dsimp only at hSw
    have d0 := hSw.1.cell' (i := 0) rfl
    have d1 := hSw.1.cell' (i := 1) rfl
    have d2 := hSw.1.cell' (i := 2) rfl
    have d3 := hSw.1.cell' (i := 3) rfl
    have u0 := hSw.2.cell' (i := 0) rfl
    have u1 := hSw.2.cell' (i := 1) rfl
    have u2 := hSw.2.cell' (i := 2) rfl
    have u3 := hSw.2.cell' (i := 3) rfl
    have u4 := hSw.2.cell' (i := 4) rfl
    have u5 := hSw.2.cell' (i := 5) rfl
    go_simp; try (with_reducible rfl)
  try simp only [Act.put, List.getElem_toArray, List.getElem_cons_succ, List.getElem_cons_zero, List.setIfInBounds_toArray, List.set_cons_zero, List.set_cons_succ]
  refine wpAnyH_take (i := 7) (v := ?_) rfl (by kernel_rfl) (by kernel_rfl) (by kernel_rfl) (fun _ _ _ h => h) (Or.inl ⟨by kernel_rfl, ?_⟩) hHeld ?_
  rotate_left
  · intro w' hSw; try dsimp only at hSw
    have d0 := hSw.1.cell' (i := 0) rfl
    have d1 := hSw.1.cell' (i := 1) rfl
    have d2 := hSw.1.cell' (i := 2) rfl
    have d3 := hSw.1.cell' (i := 3) rfl
    have u0 := hSw.2.cell' (i := 0) rfl
    have u1 := hSw.2.cell' (i := 1) rfl
    have u2 := hSw.2.cell' (i := 2) rfl
    have u3 := hSw.2.cell' (i := 3) rfl
    have u4 := hSw.2.cell' (i := 4) rfl
    have u5 := hSw.2.cell' (i := 5) rfl
    go_simp; try (with_reducible rfl)
  try simp only [Act.put, List.getElem_toArray, List.getElem_cons_succ, List.getElem_cons_zero, List.setIfInBounds_toArray, List.set_cons_zero, List.set_cons_succ]
  refine wpAnyH_take (i := 8) (v := ?_) rfl (by kernel_rfl) (by kernel_rfl) (by kernel_rfl) (fun _ _ _ h => h) (Or.inl ⟨by kernel_rfl, ?_⟩) hHeld ?_
  rotate_left
  · intro w' hSw; try dsimp only at hSw
    have d0 := hSw.1.cell' (i := 0) rfl
    have d1 := hSw.1.cell' (i := 1) rfl
    have d2 := hSw.1.cell' (i := 2) rfl
    have d3 := hSw.1.cell' (i := 3) rfl
    have u0 := hSw.2.cell' (i := 0) rfl
    have u1 := hSw.2.cell' (i := 1) rfl
    have u2 := hSw.2.cell' (i := 2) rfl
    have u3 := hSw.2.cell' (i := 3) rfl
    have u4 := hSw.2.cell' (i := 4) rfl
    have u5 := hSw.2.cell' (i := 5) rfl
    go_simp; try (with_reducible rfl)
  try simp only [Act.put, List.getElem_toArray, List.getElem_cons_succ, List.getElem_cons_zero, List.setIfInBounds_toArray, List.set_cons_zero, List.set_cons_succ]
  refine wpAnyH_take (i := 10) (v := ?_) rfl (by kernel_rfl) (by kernel_rfl) (by kernel_rfl) (fun _ _ _ h => h) (Or.inl ⟨by kernel_rfl, ?_⟩) hHeld ?_
  rotate_left
  · intro w' hSw; try dsimp only at hSw
    have d0 := hSw.1.cell' (i := 0) rfl
    have d1 := hSw.1.cell' (i := 1) rfl
    have d2 := hSw.1.cell' (i := 2) rfl
    have d3 := hSw.1.cell' (i := 3) rfl
    have u0 := hSw.2.cell' (i := 0) rfl
    have u1 := hSw.2.cell' (i := 1) rfl
    have u2 := hSw.2.cell' (i := 2) rfl
    have u3 := hSw.2.cell' (i := 3) rfl
    have u4 := hSw.2.cell' (i := 4) rfl
    have u5 := hSw.2.cell' (i := 5) rfl
    go_simp; try (with_reducible rfl)
  try simp only [Act.put, List.getElem_toArray, List.getElem_cons_succ, List.getElem_cons_zero, List.setIfInBounds_toArray, List.set_cons_zero, List.set_cons_succ]
  refine wpAnyH_take (i := 11) (v := ?_) rfl (by kernel_rfl) (by kernel_rfl) (by kernel_rfl) (fun _ _ _ h => h) (Or.inl ⟨by kernel_rfl, ?_⟩) hHeld ?_
  rotate_left
  · intro w' hSw; try dsimp only at hSw
    have d0 := hSw.1.cell' (i := 0) rfl
    have d1 := hSw.1.cell' (i := 1) rfl
    have d2 := hSw.1.cell' (i := 2) rfl
    have d3 := hSw.1.cell' (i := 3) rfl
    have u0 := hSw.2.cell' (i := 0) rfl
    have u1 := hSw.2.cell' (i := 1) rfl
    have u2 := hSw.2.cell' (i := 2) rfl
    have u3 := hSw.2.cell' (i := 3) rfl
    have u4 := hSw.2.cell' (i := 4) rfl
    have u5 := hSw.2.cell' (i := 5) rfl
    go_simp; try (with_reducible rfl)
  try simp only [Act.put, List.getElem_toArray, List.getElem_cons_succ, List.getElem_cons_zero, List.setIfInBounds_toArray, List.set_cons_zero, List.set_cons_succ]
  refine wpAnyH_take (i := 12) (v := ?_) rfl (by kernel_rfl) (by kernel_rfl) (by kernel_rfl) (fun _ _ _ h => h) (Or.inl ⟨by kernel_rfl, ?_⟩) hHeld ?_
  rotate_left
  · intro w' hSw; try dsimp only at hSw
    have d0 := hSw.1.cell' (i := 0) rfl
    have d1 := hSw.1.cell' (i := 1) rfl
    have d2 := hSw.1.cell' (i := 2) rfl
    have d3 := hSw.1.cell' (i := 3) rfl
    have u0 := hSw.2.cell' (i := 0) rfl
    have u1 := hSw.2.cell' (i := 1) rfl
    have u2 := hSw.2.cell' (i := 2) rfl
    have u3 := hSw.2.cell' (i := 3) rfl
    have u4 := hSw.2.cell' (i := 4) rfl
    have u5 := hSw.2.cell' (i := 5) rfl
    go_simp; try (with_reducible rfl)
  try simp only [Act.put, List.getElem_toArray, List.getElem_cons_succ, List.getElem_cons_zero, List.setIfInBounds_toArray, List.set_cons_zero, List.set_cons_succ]
  refine wpAnyH_take (i := 13) (v := ?_) rfl (by kernel_rfl) (by kernel_rfl) (by kernel_rfl) (fun _ _ _ h => h) (Or.inl ⟨by kernel_rfl, ?_⟩) hHeld ?_
  rotate_left
  · intro w' hSw; try dsimp only at hSw
    have d0 := hSw.1.cell' (i := 0) rfl
    have d1 := hSw.1.cell' (i := 1) rfl
    have d2 := hSw.1.cell' (i := 2) rfl
    have d3 := hSw.1.cell' (i := 3) rfl
    have u0 := hSw.2.cell' (i := 0) rfl
    have u1 := hSw.2.cell' (i := 1) rfl
    have u2 := hSw.2.cell' (i := 2) rfl
    have u3 := hSw.2.cell' (i := 3) rfl
    have u4 := hSw.2.cell' (i := 4) rfl
    have u5 := hSw.2.cell' (i := 5) rfl
    go_simp; try (with_reducible rfl)
  try simp only [Act.put, List.getElem_toArray, List.getElem_cons_succ, List.getElem_cons_zero, List.setIfInBounds_toArray, List.set_cons_zero, List.set_cons_succ]
  refine wpAnyH_take (i := 14) (v := ?_) rfl (by kernel_rfl) (by kernel_rfl) (by kernel_rfl) (fun _ _ _ h => h) (Or.inl ⟨by kernel_rfl, ?_⟩) hHeld ?_
  rotate_left
  · intro w' hSw; try dsimp only at hSw
    have d0 := hSw.1.cell' (i := 0) rfl
    have d1 := hSw.1.cell' (i := 1) rfl
    have d2 := hSw.1.cell' (i := 2) rfl
    have d3 := hSw.1.cell' (i := 3) rfl
    have u0 := hSw.2.cell' (i := 0) rfl
    have u1 := hSw.2.cell' (i := 1) rfl
    have u2 := hSw.2.cell' (i := 2) rfl
    have u3 := hSw.2.cell' (i := 3) rfl
    have u4 := hSw.2.cell' (i := 4) rfl
    have u5 := hSw.2.cell' (i := 5) rfl
    go_simp; try (with_reducible rfl)
  try simp only [Act.put, List.getElem_toArray, List.getElem_cons_succ, List.getElem_cons_zero, List.setIfInBounds_toArray, List.set_cons_zero, List.set_cons_succ]
  refine wpAnyH_take (i := 15) (v := ?_) rfl (by kernel_rfl) (by kernel_rfl) (by kernel_rfl) (fun _ _ _ h => h) (Or.inl ⟨by kernel_rfl, ?_⟩) hHeld ?_
  rotate_left
  · intro w' hSw; try dsimp only at hSw
    have d0 := hSw.1.cell' (i := 0) rfl
    have d1 := hSw.1.cell' (i := 1) rfl
    have d2 := hSw.1.cell' (i := 2) rfl
    have d3 := hSw.1.cell' (i := 3) rfl
    have u0 := hSw.2.cell' (i := 0) rfl
    have u1 := hSw.2.cell' (i := 1) rfl
    have u2 := hSw.2.cell' (i := 2) rfl
    have u3 := hSw.2.cell' (i := 3) rfl
    have u4 := hSw.2.cell' (i := 4) rfl
    have u5 := hSw.2.cell' (i := 5) rfl
    go_simp; try (with_reducible rfl)
  try simp only [Act.put, List.getElem_toArray, List.getElem_cons_succ, List.getElem_cons_zero, List.setIfInBounds_toArray, List.set_cons_zero, List.set_cons_succ]
  refine wpAnyH_take (i := 16) (v := ?_) rfl (by kernel_rfl) (by kernel_rfl) (by kernel_rfl) (fun _ _ _ h => h) (Or.inl ⟨by kernel_rfl, ?_⟩) hHeld ?_
  rotate_left
  · intro w' hSw; try dsimp only at hSw
    have d0 := hSw.1.cell' (i := 0) rfl
    have d1 := hSw.1.cell' (i := 1) rfl
    have d2 := hSw.1.cell' (i := 2) rfl
    have d3 := hSw.1.cell' (i := 3) rfl
    have u0 := hSw.2.cell' (i := 0) rfl
    have u1 := hSw.2.cell' (i := 1) rfl
    have u2 := hSw.2.cell' (i := 2) rfl
    have u3 := hSw.2.cell' (i := 3) rfl
    have u4 := hSw.2.cell' (i := 4) rfl
    have u5 := hSw.2.cell' (i := 5) rfl
    go_simp; try (with_reducible rfl)
  try simp only [Act.put, List.getElem_toArray, List.getElem_cons_succ, List.getElem_cons_zero, List.setIfInBounds_toArray, List.set_cons_zero, List.set_cons_succ]
  refine wpAnyH_take (i := 17) (v := ?_) rfl (by kernel_rfl) (by kernel_rfl) (by kernel_rfl) (fun _ _ _ h => h) (Or.inl ⟨by kernel_rfl, ?_⟩) hHeld ?_
  rotate_left
  · intro w' hSw; try dsimp only at hSw
    have d0 := hSw.1.cell' (i := 0) rfl
    have d1 := hSw.1.cell' (i := 1) rfl
    have d2 := hSw.1.cell' (i := 2) rfl
    have d3 := hSw.1.cell' (i := 3) rfl
    have u0 := hSw.2.cell' (i := 0) rfl
    have u1 := hSw.2.cell' (i := 1) rfl
    have u2 := hSw.2.cell' (i := 2) rfl
    have u3 := hSw.2.cell' (i := 3) rfl
    have u4 := hSw.2.cell' (i := 4) rfl
    have u5 := hSw.2.cell' (i := 5) rfl
    go_simp; try (with_reducible rfl)
  try simp only [Act.put, List.getElem_toArray, List.getElem_cons_succ, List.getElem_cons_zero, List.setIfInBounds_toArray, List.set_cons_zero, List.set_cons_succ]
  refine wpAnyH_take (i := 18) (v := ?_) rfl (by kernel_rfl) (by kernel_rfl) (by kernel_rfl) (fun _ _ _ h => h) (Or.inl ⟨by kernel_rfl, ?_⟩) hHeld ?_
  rotate_left
  · intro w' hSw; try dsimp only at hSw
    have d0 := hSw.1.cell' (i := 0) rfl
    have d1 := hSw.1.cell' (i := 1) rfl
    have d2 := hSw.1.cell' (i := 2) rfl
    have d3 := hSw.1.cell' (i := 3) rfl
    have u0 := hSw.2.cell' (i := 0) rfl
    have u1 := hSw.2.cell' (i := 1) rfl
    have u2 := hSw.2.cell' (i := 2) rfl
    have u3 := hSw.2.cell' (i := 3) rfl
    have u4 := hSw.2.cell' (i := 4) rfl
    have u5 := hSw.2.cell' (i := 5) rfl
    go_simp; try (with_reducible rfl)
  try simp only [Act.put, List.getElem_toArray, List.getElem_cons_succ, List.getElem_cons_zero, List.setIfInBounds_toArray, List.set_cons_zero, List.set_cons_succ]
  refine wpAnyH_ready (rs := [9]) (by kernel_rfl) (by simp) ?_
  refine AllReadyH.cons rfl (fun K hK => ?_) AllReadyH.nil
  go_simp
  refine h1.mono ?_
  rintro e w1 ⟨rfl, c1, A, hP1, hD1⟩
  have Q1 := T0.Q.keepC T0.C A.keep
  have hd1 := A.dat T0.C hd0
  refine hK.out _ _ ⟨A.blk T0.C hHeld.1 (by decide) (by decide) (by decide) (by decide), A.blk T0.C hHeld.2 (by decide) (by decide) (by decide) (by decide)⟩ (fun hHeld => ?_)
  clear hK K
  try simp only [Act.put, List.getElem_toArray, List.getElem_cons_succ, List.getElem_cons_zero, List.setIfInBounds_toArray, List.set_cons_zero, List.set_cons_succ]
  refine wpAnyH_ready (rs := [19]) (by kernel_rfl) (by simp) ?_
  refine AllReadyH.cons rfl (fun K hK => ?_) AllReadyH.nil
  go_simp
  refine (h2 _ Q1 hd1).mono ?_
  rintro e w2 ⟨rfl, q1, E2, hP2, hR2⟩
  refine hK.out _ _ ⟨hHeld.1.keep E2.keep (Q1.apart hHeld.1 (by decide) (by decide) (by decide) (by decide) (by decide) (by decide)), hHeld.2.keep E2.keep (Q1.apart hHeld.2 (by decide) (by decide) (by decide) (by decide) (by decide) (by decide))⟩ (fun hHeld => ?_)
  clear hK K
  try simp only [Act.put, List.getElem_toArray, List.getElem_cons_succ, List.getElem_cons_zero, List.setIfInBounds_toArray, List.set_cons_zero, List.set_cons_succ]
  refine wpAnyH_take (i := 20) (v := ?_) rfl (by kernel_rfl) (by kernel_rfl) (by kernel_rfl) (fun _ _ _ h => h) (Or.inl ⟨by kernel_rfl, ?_⟩) hHeld ?_
  rotate_left
  · intro w' hSw; try dsimp only at hSw
    go_simp; try (with_reducible rfl)
  try simp only [Act.put, List.getElem_toArray, List.getElem_cons_succ, List.getElem_cons_zero, List.setIfInBounds_toArray, List.set_cons_zero, List.set_cons_succ]
  refine wpAnyH_take (i := 21) (v := ?_) rfl (by kernel_rfl) (by kernel_rfl) (by kernel_rfl) (fun _ _ _ h => h) (Or.inl ⟨by kernel_rfl, ?_⟩) hHeld ?_
  rotate_left
  · intro w' hSw; try dsimp only at hSw
    go_simp; try (with_reducible rfl)
  try simp only [Act.put, List.getElem_toArray, List.getElem_cons_succ, List.getElem_cons_zero, List.setIfInBounds_toArray, List.set_cons_zero, List.set_cons_succ]
  refine wpAnyH_done (by kernel_rfl) ?_ _
  refine NoPanic.normal ?_
  clear hHeld
  go_wp2
  go_ret
  obtain ⟨T2, hb2⟩ := T0.bothC (M := N + 1) A E2 (by rw [hP2, hP1]) (by rw [hD1]; exact hR2) (by rw [hP1, hD1]; exact hpi)
  exact ⟨ret_bool (by simp), c1, q1, T2, (BelC.of (bt hb0 hbf).drew T.le).trans hb2, A.d, E2.g⟩
set_option linter.unusedSimpArgs false in
set_option linter.unusedVariables false in
set_option maxRecDepth 100000 in
set_option maxHeartbeats 4000000 in
theorem does_cut {B0 : Nat} {w : World} {tw : Nat} {c : CS} {q : QS} {N : Nat} (T : Twin B0 w tw c q N) (i : Int) (f : Nat) (cl : Int) (p : Option Addr) (n cc : Nat) (cut : Int) (hcut : -9223372036854775808 ≤ cut ∧ cut ≤ 9223372036854775807) : Calls Tryz.prog 9 #[.pointer (some ⟨tw, 0, none⟩), .agg #[.int .i64 8, .int .i64 i, .int .u8 (f : Int), .int .i64 cl, .slice p n cc, .int .i64 cut]] w (DoesOk B0 tw c q N w) := by
  have hb0 := below_alloc w (.cells #[.int .i64 8, .int .i64 i, .int .u8 (f : Int), .int .i64 cl, .slice p n cc, .int .i64 cut] 42)
  have g3 := Blk.new' w 42 #[.int .i64 8, .int .i64 i, .int .u8 (f : Int), .int .i64 cl, .slice p n cc, .int .i64 cut]
  have k0 := g3.cell' (i := 0) rfl
  have k2 := g3.cell' (i := 2) rfl
  have T00 := T.below hb0
  have j0 := T00.tb.cell' (i := 0) rfl
  have j2 := T00.tb.cell' (i := 2) rfl
  have hbB0 := hb0.mono T.le
  go_enter Tryz.func9, Tryz.ntmps9
  go_wp2_with fail
  generalize w.alloc (.cells #[.int .i64 8, .int .i64 i, .int .u8 (f : Int), .int .i64 cl, .slice p n cc, .int .i64 cut] 42) = V at *
  refine (restart_any T00.C.base.disk).mono ?_
  rintro e w1 ⟨⟨v1, rfl⟩, A1⟩
  have A1c := T00.C.disked A1 rfl
  have Q1 := T00.Q.keepC T00.C A1c.keep
  have tb1 := A1c.blk T00.C T00.tb (by decide) (by decide) (by decide) (by decide)
  have l2 := tb1.cell' (i := 2) rfl
  go_wp2_with fail
  refine (rrestart_any Q1.ref).mono ?_
  rintro e w2 ⟨⟨v2, rfl⟩, A2⟩
  have A2q := Q1.disked A2
  obtain ⟨T2, hb2⟩ := T00.bothC (M := N) A1c A2q T00.P T00.rel.restart (T00.pi.disk rfl)
  have g32 : Blk w2 w.heap.size 42 [.int .i64 8, .int .i64 i, .int .u8 (f : Int), .int .i64 cl, .slice p n cc, .int .i64 cut] := (A1c.blk T00.C g3 (by decide) (by decide) (by decide) (by decide)).keep A2q.keep (Q1.apart (A1c.blk T00.C g3 (by decide) (by decide) (by decide) (by decide)) (by decide) (by decide) (by decide) (by decide) (by decide) (by decide))
  go_wp2
  have tb2 := T2.tb
  refine wp_region_noPanic ?_
  refine wp_region_held_drew (S := (fun X => Blk X tw 39 [.pointer (some ⟨c.d, 0, none⟩), .pointer (some ⟨c.c, 0, none⟩), .pointer (some ⟨q.g, 0, none⟩), .pointer (some ⟨q.q, 0, none⟩)] ∧ Blk X w.heap.size 42 [.int .i64 8, .int .i64 i, .int .u8 (f : Int), .int .i64 cl, .slice p n cc, .int .i64 cut])) (by kernel_rfl) ⟨tb2.drew, g32.drew⟩ (fun hHeld => ?_)
  refine wpAnyH_take (i := 0) (v := ?_) rfl (by kernel_rfl) (by kernel_rfl) (by kernel_rfl) (fun _ _ _ h => h) (Or.inl ⟨by kernel_rfl, ?_⟩) hHeld ?_
  rotate_left
  · intro w' hSw; try dsimp only at hSw
    have d0 := hSw.1.cell' (i := 0) rfl
    have d1 := hSw.1.cell' (i := 1) rfl
    have d2 := hSw.1.cell' (i := 2) rfl
    have d3 := hSw.1.cell' (i := 3) rfl
    have u0 := hSw.2.cell' (i := 0) rfl
    have u1 := hSw.2.cell' (i := 1) rfl
    have u2 := hSw.2.cell' (i := 2) rfl
    have u3 := hSw.2.cell' (i := 3) rfl
    have u4 := hSw.2.cell' (i := 4) rfl
    have u5 := hSw.2.cell' (i := 5) rfl
    go_simp; try (with_reducible rfl)
  try simp only [Act.put, List.getElem_toArray, List.getElem_cons_succ, List.getElem_cons_zero, List.setIfInBounds_toArray, List.set_cons_zero, List.set_cons_succ]
  refine wpAnyH_take (i := 1) (v := ?_) rfl (by kernel_rfl) (by kernel_rfl) (by kernel_rfl) (fun _ _ _ h => h) (Or.inl ⟨by kernel_rfl, ?_⟩) hHeld ?_
  rotate_left
  · intro w' hSw; try dsimp only at hSw
    have d0 := hSw.1.cell' (i := 0) rfl
    have d1 := hSw.1.cell' (i := 1) rfl
    have d2 := hSw.1.cell' (i := 2) rfl
    have d3 := hSw.1.cell' (i := 3) rfl
    have u0 := hSw.2.cell' (i := 0) rfl
    have u1 := hSw.2.cell' (i := 1) rfl
    have u2 := hSw.2.cell' (i := 2) rfl
    have u3 := hSw.2.cell' (i := 3) rfl
    have u4 := hSw.2.cell' (i := 4) rfl
    have u5 := hSw.2.cell' (i := 5) rfl
    go_simp; try (with_reducible rfl)
  try simp only [Act.put, List.getElem_toArray, List.getElem_cons_succ, List.getElem_cons_zero, List.setIfInBounds_toArray, List.set_cons_zero, List.set_cons_succ]
  refine wpAnyH_take (i := 2) (v := ?_) rfl (by kernel_rfl) (by kernel_rfl) (by kernel_rfl) (fun _ _ _ h => h) (Or.inl ⟨by kernel_rfl, ?_⟩) hHeld ?_
  rotate_left
  · intro w' hSw; try dsimp only at hSw
    have d0 := hSw.1.cell' (i := 0) rfl
    have d1 := hSw.1.cell' (i := 1) rfl
    have d2 := hSw.1.cell' (i := 2) rfl
    have d3 := hSw.1.cell' (i := 3) rfl
    have u0 := hSw.2.cell' (i := 0) rfl
    have u1 := hSw.2.cell' (i := 1) rfl
    have u2 := hSw.2.cell' (i := 2) rfl
    have u3 := hSw.2.cell' (i := 3) rfl
    have u4 := hSw.2.cell' (i := 4) rfl
    have u5 := hSw.2.cell' (i := 5) rfl
    go_simp; try (with_reducible rfl)
  try simp only [Act.put, List.getElem_toArray, List.getElem_cons_succ, List.getElem_cons_zero, List.setIfInBounds_toArray, List.set_cons_zero, List.set_cons_succ]
  refine wpAnyH_take (i := 3) (v := ?_) rfl (by kernel_rfl) (by kernel_rfl) (by kernel_rfl) (fun _ _ _ h => h) (Or.inl ⟨by kernel_rfl, ?_⟩) hHeld ?_
  rotate_left
  · intro w' hSw; try dsimp only at hSw
    have d0 := hSw.1.cell' (i := 0) rfl
    have d1 := hSw.1.cell' (i := 1) rfl
    have d2 := hSw.1.cell' (i := 2) rfl
    have d3 := hSw.1.cell' (i := 3) rfl
    have u0 := hSw.2.cell' (i := 0) rfl
    have u1 := hSw.2.cell' (i := 1) rfl
    have u2 := hSw.2.cell' (i := 2) rfl
    have u3 := hSw.2.cell' (i := 3) rfl
    have u4 := hSw.2.cell' (i := 4) rfl
    have u5 := hSw.2.cell' (i := 5) rfl
    go_simp; try (with_reducible rfl)
  try simp only [Act.put, List.getElem_toArray, List.getElem_cons_succ, List.getElem_cons_zero, List.setIfInBounds_toArray, List.set_cons_zero, List.set_cons_succ]
  refine wpAnyH_take (i := 4) (v := ?_) rfl (by kernel_rfl) (by kernel_rfl) (by kernel_rfl) (fun _ _ _ h => h) (Or.inl ⟨by kernel_rfl, ?_⟩) hHeld ?_
  rotate_left
  · intro w' hSw; try dsimp only at hSw
    have d0 := hSw.1.cell' (i := 0) rfl
    have d1 := hSw.1.cell' (i := 1) rfl
    have d2 := hSw.1.cell' (i := 2) rfl
    have d3 := hSw.1.cell' (i := 3) rfl
    have u0 := hSw.2.cell' (i := 0) rfl
    have u1 := hSw.2.cell' (i := 1) rfl
    have u2 := hSw.2.cell' (i := 2) rfl
    have u3 := hSw.2.cell' (i := 3) rfl
    have u4 := hSw.2.cell' (i := 4) rfl
    have u5 := hSw.2.cell' (i := 5) rfl
    go_simp; try (with_reducible rfl)
  try simp only [Act.put, List.getElem_toArray, List.getElem_cons_succ, List.getElem_cons_zero, List.setIfInBounds_toArray, List.set_cons_zero, List.set_cons_succ]
  refine wpAnyH_take (i := 5) (v := ?_) rfl (by kernel_rfl) (by kernel_rfl) (by kernel_rfl) (fun _ _ _ h => h) (Or.inl ⟨by kernel_rfl, ?_⟩) hHeld ?_
  rotate_left
  · intro w' hSw; try dsimp only at hSw
    have d0 := hSw.1.cell' (i := 0) rfl
    have d1 := hSw.1.cell' (i := 1) rfl
    have d2 := hSw.1.cell' (i := 2) rfl
    have d3 := hSw.1.cell' (i := 3) rfl
    have u0 := hSw.2.cell' (i := 0) rfl
    have u1 := hSw.2.cell' (i := 1) rfl
    have u2 := hSw.2.cell' (i := 2) rfl
    have u3 := hSw.2.cell' (i := 3) rfl
    have u4 := hSw.2.cell' (i := 4) rfl
    have u5 := hSw.2.cell' (i := 5) rfl
    go_simp; try (with_reducible rfl)
  try simp only [Act.put, List.getElem_toArray, List.getElem_cons_succ, List.getElem_cons_zero, List.setIfInBounds_toArray, List.set_cons_zero, List.set_cons_succ]
  have T2d := T2.below ((Below.refl _ _).drew)
  refine wpAnyH_ready (rs := [6]) (by kernel_rfl) (by simp) ?_
  refine AllReadyH.cons rfl (fun K hK => ?_) AllReadyH.nil
  go_simp
  refine (cut_any T2d.C.base.disk cut hcut).mono ?_
  rintro e w3 ⟨⟨v3, rfl⟩, A3⟩
  have A3c := T2d.C.disked A3 rfl
  refine hK.out _ _ ⟨A3c.blk T2d.C hHeld.1 (by decide) (by decide) (by decide) (by decide), A3c.blk T2d.C hHeld.2 (by decide) (by decide) (by decide) (by decide)⟩ (fun hHeld => ?_)
  clear hK K
  try simp only [Act.put, List.getElem_toArray, List.getElem_cons_succ, List.getElem_cons_zero, List.setIfInBounds_toArray, List.set_cons_zero, List.set_cons_succ]
  refine wpAnyH_done (by kernel_rfl) ?_ _
  refine NoPanic.normal ?_
  obtain ⟨tb3, g33⟩ := hHeld
  have Q3 := T2d.Q.keepC T2d.C A3c.keep
  go_wp2
  have Q3d := Q3.below ((Below.refl _ _).drew)
  refine wp_region_noPanic ?_
  refine wp_region_held_drew (S := (fun X => Blk X tw 39 [.pointer (some ⟨c.d, 0, none⟩), .pointer (some ⟨c.c, 0, none⟩), .pointer (some ⟨q.g, 0, none⟩), .pointer (some ⟨q.q, 0, none⟩)] ∧ Blk X w.heap.size 42 [.int .i64 8, .int .i64 i, .int .u8 (f : Int), .int .i64 cl, .slice p n cc, .int .i64 cut])) (by kernel_rfl) ⟨tb3.drew, g33.drew⟩ (fun hHeld => ?_)
  refine wpAnyH_take (i := 0) (v := ?_) rfl (by kernel_rfl) (by kernel_rfl) (by kernel_rfl) (fun _ _ _ h => h) (Or.inl ⟨by kernel_rfl, ?_⟩) hHeld ?_
  rotate_left
  · intro w' hSw; try dsimp only at hSw
    have d0 := hSw.1.cell' (i := 0) rfl
    have d1 := hSw.1.cell' (i := 1) rfl
    have d2 := hSw.1.cell' (i := 2) rfl
    have d3 := hSw.1.cell' (i := 3) rfl
    have u0 := hSw.2.cell' (i := 0) rfl
    have u1 := hSw.2.cell' (i := 1) rfl
    have u2 := hSw.2.cell' (i := 2) rfl
    have u3 := hSw.2.cell' (i := 3) rfl
    have u4 := hSw.2.cell' (i := 4) rfl
    have u5 := hSw.2.cell' (i := 5) rfl
    go_simp; try (with_reducible rfl)
  try simp only [Act.put, List.getElem_toArray, List.getElem_cons_succ, List.getElem_cons_zero, List.setIfInBounds_toArray, List.set_cons_zero, List.set_cons_succ]
  refine wpAnyH_take (i := 1) (v := ?_) rfl (by kernel_rfl) (by kernel_rfl) (by kernel_rfl) (fun _ _ _ h => h) (Or.inl ⟨by kernel_rfl, ?_⟩) hHeld ?_
  rotate_left
  · intro w' hSw; try dsimp only at hSw
    have d0 := hSw.1.cell' (i := 0) rfl
    have d1 := hSw.1.cell' (i := 1) rfl
    have d2 := hSw.1.cell' (i := 2) rfl
    have d3 := hSw.1.cell' (i := 3) rfl
    have u0 := hSw.2.cell' (i := 0) rfl
    have u1 := hSw.2.cell' (i := 1) rfl
    have u2 := hSw.2.cell' (i := 2) rfl
    have u3 := hSw.2.cell' (i := 3) rfl
    have u4 := hSw.2.cell' (i := 4) rfl
    have u5 := hSw.2.cell' (i := 5) rfl
    go_simp; try (with_reducible rfl)
  try simp only [Act.put, List.getElem_toArray, List.getElem_cons_succ, List.getElem_cons_zero, List.setIfInBounds_toArray, List.set_cons_zero, List.set_cons_succ]
  refine wpAnyH_take (i := 2) (v := ?_) rfl (by kernel_rfl) (by kernel_rfl) (by kernel_rfl) (fun _ _ _ h => h) (Or.inl ⟨by kernel_rfl, ?_⟩) hHeld ?_
  rotate_left
  · intro w' hSw; try dsimp only at hSw
    have d0 := hSw.1.cell' (i := 0) rfl
    have d1 := hSw.1.cell' (i := 1) rfl
    have d2 := hSw.1.cell' (i := 2) rfl
    have d3 := hSw.1.cell' (i := 3) rfl
    have u0 := hSw.2.cell' (i := 0) rfl
    have u1 := hSw.2.cell' (i := 1) rfl
    have u2 := hSw.2.cell' (i := 2) rfl
    have u3 := hSw.2.cell' (i := 3) rfl
    have u4 := hSw.2.cell' (i := 4) rfl
    have u5 := hSw.2.cell' (i := 5) rfl
    go_simp; try (with_reducible rfl)
  try simp only [Act.put, List.getElem_toArray, List.getElem_cons_succ, List.getElem_cons_zero, List.setIfInBounds_toArray, List.set_cons_zero, List.set_cons_succ]
  refine wpAnyH_take (i := 3) (v := ?_) rfl (by kernel_rfl) (by kernel_rfl) (by kernel_rfl) (fun _ _ _ h => h) (Or.inl ⟨by kernel_rfl, ?_⟩) hHeld ?_
  rotate_left
  · intro w' hSw; try dsimp only at hSw
    have d0 := hSw.1.cell' (i := 0) rfl
    have d1 := hSw.1.cell' (i := 1) rfl
    have d2 := hSw.1.cell' (i := 2) rfl
    have d3 := hSw.1.cell' (i := 3) rfl
    have u0 := hSw.2.cell' (i := 0) rfl
    have u1 := hSw.2.cell' (i := 1) rfl
    have u2 := hSw.2.cell' (i := 2) rfl
    have u3 := hSw.2.cell' (i := 3) rfl
    have u4 := hSw.2.cell' (i := 4) rfl
    have u5 := hSw.2.cell' (i := 5) rfl
    go_simp; try (with_reducible rfl)
  try simp only [Act.put, List.getElem_toArray, List.getElem_cons_succ, List.getElem_cons_zero, List.setIfInBounds_toArray, List.set_cons_zero, List.set_cons_succ]
  refine wpAnyH_take (i := 4) (v := ?_) rfl (by kernel_rfl) (by kernel_rfl) (by kernel_rfl) (fun _ _ _ h => h) (Or.inl ⟨by kernel_rfl, ?_⟩) hHeld ?_
  rotate_left
  · intro w' hSw; try dsimp only at hSw
    have d0 := hSw.1.cell' (i := 0) rfl
    have d1 := hSw.1.cell' (i := 1) rfl
    have d2 := hSw.1.cell' (i := 2) rfl
    have d3 := hSw.1.cell' (i := 3) rfl
    have u0 := hSw.2.cell' (i := 0) rfl
    have u1 := hSw.2.cell' (i := 1) rfl
    have u2 := hSw.2.cell' (i := 2) rfl
    have u3 := hSw.2.cell' (i := 3) rfl
    have u4 := hSw.2.cell' (i := 4) rfl
    have u5 := hSw.2.cell' (i := 5) rfl
    go_simp; try (with_reducible rfl)
  try simp only [Act.put, List.getElem_toArray, List.getElem_cons_succ, List.getElem_cons_zero, List.setIfInBounds_toArray, List.set_cons_zero, List.set_cons_succ]
  refine wpAnyH_take (i := 5) (v := ?_) rfl (by kernel_rfl) (by kernel_rfl) (by kernel_rfl) (fun _ _ _ h => h) (Or.inl ⟨by kernel_rfl, ?_⟩) hHeld ?_
  rotate_left
  · intro w' hSw; try dsimp only at hSw
    have d0 := hSw.1.cell' (i := 0) rfl
    have d1 := hSw.1.cell' (i := 1) rfl
    have d2 := hSw.1.cell' (i := 2) rfl
    have d3 := hSw.1.cell' (i := 3) rfl
    have u0 := hSw.2.cell' (i := 0) rfl
    have u1 := hSw.2.cell' (i := 1) rfl
    have u2 := hSw.2.cell' (i := 2) rfl
    have u3 := hSw.2.cell' (i := 3) rfl
    have u4 := hSw.2.cell' (i := 4) rfl
    have u5 := hSw.2.cell' (i := 5) rfl
    go_simp; try (with_reducible rfl)
  try simp only [Act.put, List.getElem_toArray, List.getElem_cons_succ, List.getElem_cons_zero, List.setIfInBounds_toArray, List.set_cons_zero, List.set_cons_succ]
  refine wpAnyH_ready (rs := [6]) (by kernel_rfl) (by simp) ?_
  refine AllReadyH.cons rfl (fun K hK => ?_) AllReadyH.nil
  go_simp
  refine (rcut_any Q3d.ref cut hcut).mono ?_
  rintro e w4 ⟨⟨v4, rfl⟩, A4⟩
  have A4q := Q3d.disked A4
  refine hK.out _ _ ⟨hHeld.1.keep A4q.keep (Q3d.apart hHeld.1 (by decide) (by decide) (by decide) (by decide) (by decide) (by decide)), hHeld.2.keep A4q.keep (Q3d.apart hHeld.2 (by decide) (by decide) (by decide) (by decide) (by decide) (by decide))⟩ (fun hHeld => ?_)
  clear hK K
  try simp only [Act.put, List.getElem_toArray, List.getElem_cons_succ, List.getElem_cons_zero, List.setIfInBounds_toArray, List.set_cons_zero, List.set_cons_succ]
  refine wpAnyH_done (by kernel_rfl) ?_ _
  refine NoPanic.normal ?_
  clear hHeld
  go_wp2
  go_ret
  obtain ⟨T4, hb4⟩ := T2d.bothC (M := N + 1) A3c (A4q.drop ((Below.refl _ _).drew)) T2d.P (T2d.rel.cut cut) ⟨T2d.pi.d, T2d.pi.c, fun b hb => Nat.le_succ_of_le (T2d.pi.p b hb), Nat.le_succ_of_le T2d.pi.wr⟩
  exact ⟨rfl, _, _, T4, ((BelC.of hb0 T.le).trans hb2).trans ((BelC.of ((Below.refl _ _).drew) T2.le).trans hb4), rfl, rfl⟩
set_option linter.unusedSimpArgs false in
set_option linter.unusedVariables false in
set_option maxRecDepth 100000 in
set_option maxHeartbeats 4000000 in
theorem does_other {B0 : Nat} {w : World} {tw : Nat} {c : CS} {q : QS} {N : Nat} (T : Twin B0 w tw c q N) (i : Int) (f : Nat) (cl : Int) (p : Option Addr) (n cc : Nat) (cut : Int) (d : Int) (hd : ¬ (0 ≤ d ∧ d ≤ 9)) : Calls Tryz.prog 9 #[.pointer (some ⟨tw, 0, none⟩), .agg #[.int .i64 d, .int .i64 i, .int .u8 (f : Int), .int .i64 cl, .slice p n cc, .int .i64 cut]] w (DoesOk B0 tw c q N w) := by
  have hb0 := below_alloc w (.cells #[.int .i64 d, .int .i64 i, .int .u8 (f : Int), .int .i64 cl, .slice p n cc, .int .i64 cut] 42)
  have g3 := Blk.new' w 42 #[.int .i64 d, .int .i64 i, .int .u8 (f : Int), .int .i64 cl, .slice p n cc, .int .i64 cut]
  have k0 := g3.cell' (i := 0) rfl
  have k2 := g3.cell' (i := 2) rfl
  have q0 : (d == 0) = false := by simp; omega
  have q1 : (d == 1) = false := by simp; omega
  have q2 : (d == 2) = false := by simp; omega
  have q3 : (d == 3) = false := by simp; omega
  have q4 : (d == 4) = false := by simp; omega
  have q5 : (d == 5) = false := by simp; omega
  have q6 : (d == 6) = false := by simp; omega
  have q7 : (d == 7) = false := by simp; omega
  have q8 : (d == 8) = false := by simp; omega
  have q9 : (d == 9) = false := by simp; omega
  clear hd
  go_enter Tryz.func9, Tryz.ntmps9
  go_wp2
  go_ret
  exact ⟨rfl, c, q, ⟨(T.below hb0).C, (T.below hb0).Q, (T.below hb0).tb, T.P, T.rel, T.room, T.pi.mono (Nat.le_succ _), T.fc, T.fq, (T.below hb0).le⟩, BelC.of hb0 T.le, rfl, rfl⟩
end Go.Proofs.YtdmnddikcpfmfaaGreat
