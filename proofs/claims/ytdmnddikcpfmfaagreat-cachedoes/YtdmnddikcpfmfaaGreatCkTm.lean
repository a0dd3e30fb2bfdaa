/-
  The law's same.
-/
import Derived.Test.YtdmnddikcpfmfaaGreatCkTs
namespace Go.Proofs.YtdmnddikcpfmfaaGreat
open Go.RowKit Go.Shelf
set_option linter.unusedSimpArgs false in
set_option linter.unusedVariables false in
set_option maxRecDepth 100000 in
set_option maxHeartbeats 0 in
theorem same_a {B0 : Nat} {w : World} {tw : Nat} {c : CS} {q : QS} {N : Nat} (T : Twin B0 w tw c q N) (i : Int) (hpz : pinI q.P i > 0) : Calls Tryz.prog 10 #[.pointer (some ⟨tw, 0, none⟩), .int .i64 i] w fun e w' => e = .returned (.bool true) ∧ Below w.heap.size w w' := by
  have hb0 := below_alloc w (.cells #[.int .i64 i] 3)
  have g3 := Blk.new' w 3 #[.int .i64 i]
  have T0 := T.below hb0
  have tb := T0.tb
  have qb := T0.Q.blk
  have rb := T0.Q.ref.blk
  have hn2 : c.ds.secs.length ≤ 8192 := T.C.base.disk.n2
  have hok : ∀ b ∈ c.P, b.k < c.ds.secs.length := fun b hb => by obtain ⟨x, hx, rfl⟩ := List.mem_map.1 hb; exact T.C.fit.ok x hx
  obtain ⟨HB, hHB⟩ : ∃ HB, hasK c.P c.ds.secs.length i = HB := ⟨_, rfl⟩
  have HHK : Hid (hasK c.P c.ds.secs.length i = HB) := hHB
  have HANY : Hid (q.P.any (isI i) = HB) := by show _ = _; rw [← hHB, has_rel hok, T.P]
  have HD1 : Hid (dirtQ q.t.secs.length q.P 1 = dirtyKs c.ds.secs.length c.P 1) := by show _ = _; rw [T.P, T.rel.len, dirt_rel T.kd]
  have HD2 : Hid (dirtQ q.t.secs.length q.P 2 = dirtyKs c.ds.secs.length c.P 2) := by show _ = _; rw [T.P, T.rel.len, dirt_rel T.kd]
  have HWR : Hid (q.t.many = c.ds.writes) := T.rel.w
  have HPL : Hid (c.P.length = q.L.length) := by show _ = _; rw [← T.P]; simp [QS.P]
  obtain ⟨nl, hnl⟩ : ∃ nl, nl = q.L.length := ⟨_, rfl⟩
  obtain ⟨pl, cl, hlv⟩ := owns_slice T.Q.row
  have HLV : Hid (q.lv = .slice pl q.L.length cl) := hlv
  clear hHB hok hnl hlv
  have hb1 : HB = true := by rw [← HANY.out]; exact pin_has hpz
  subst hb1
  go_enter Tryz.func10, Tryz.ntmps10
  go_upto_region 1 with fail
  generalize w.alloc (.cells #[.int .i64 i] 3) = V at *
  refine wp_region_noPanic ?_
  refine wp_region_held_drew (S := (fun X => Below V.heap.size V X)) (by kernel_rfl) (Below.refl _ _).drew (fun hHeld => ?_)
  refine wpAnyH_take (i := 0) (v := ?_) rfl (by kernel_rfl) (by kernel_rfl) (by kernel_rfl) (fun _ _ _ h => h) (Or.inl ⟨by kernel_rfl, ?_⟩) hHeld ?_
  rotate_left
  · intro w' hSw; try dsimp only at hSw
    have d0 := (tb.kept hSw).cell' (i := 0) rfl
    have d1 := (tb.kept hSw).cell' (i := 1) rfl
    have d2 := (tb.kept hSw).cell' (i := 2) rfl
    have d3 := (tb.kept hSw).cell' (i := 3) rfl
    have u0 := (g3.kept hSw).cell' (i := 0) rfl
    have z2 := (qb.kept hSw).cell' (i := 2) rfl
    have m5 := (rb.kept hSw).cell' (i := 5) rfl
    go_simp; try (with_reducible rfl)
  try simp only [Act.put, List.getElem_toArray, List.getElem_cons_succ, List.getElem_cons_zero, List.setIfInBounds_toArray, List.set_cons_zero, List.set_cons_succ]
  refine wpAnyH_take (i := 1) (v := ?_) rfl (by kernel_rfl) (by kernel_rfl) (by kernel_rfl) (fun _ _ _ h => h) (Or.inl ⟨by kernel_rfl, ?_⟩) hHeld ?_
  rotate_left
  · intro w' hSw; try dsimp only at hSw
    have d0 := (tb.kept hSw).cell' (i := 0) rfl
    have d1 := (tb.kept hSw).cell' (i := 1) rfl
    have d2 := (tb.kept hSw).cell' (i := 2) rfl
    have d3 := (tb.kept hSw).cell' (i := 3) rfl
    have u0 := (g3.kept hSw).cell' (i := 0) rfl
    have z2 := (qb.kept hSw).cell' (i := 2) rfl
    have m5 := (rb.kept hSw).cell' (i := 5) rfl
    go_simp; try (with_reducible rfl)
  try simp only [Act.put, List.getElem_toArray, List.getElem_cons_succ, List.getElem_cons_zero, List.setIfInBounds_toArray, List.set_cons_zero, List.set_cons_succ]
  refine wpAnyH_take (i := 2) (v := ?_) rfl (by kernel_rfl) (by kernel_rfl) (by kernel_rfl) (fun _ _ _ h => h) (Or.inl ⟨by kernel_rfl, ?_⟩) hHeld ?_
  rotate_left
  · intro w' hSw; try dsimp only at hSw
    have d0 := (tb.kept hSw).cell' (i := 0) rfl
    have d1 := (tb.kept hSw).cell' (i := 1) rfl
    have d2 := (tb.kept hSw).cell' (i := 2) rfl
    have d3 := (tb.kept hSw).cell' (i := 3) rfl
    have u0 := (g3.kept hSw).cell' (i := 0) rfl
    have z2 := (qb.kept hSw).cell' (i := 2) rfl
    have m5 := (rb.kept hSw).cell' (i := 5) rfl
    go_simp; try (with_reducible rfl)
  try simp only [Act.put, List.getElem_toArray, List.getElem_cons_succ, List.getElem_cons_zero, List.setIfInBounds_toArray, List.set_cons_zero, List.set_cons_succ]
  refine wpAnyH_take (i := 3) (v := ?_) rfl (by kernel_rfl) (by kernel_rfl) (by kernel_rfl) (fun _ _ _ h => h) (Or.inl ⟨by kernel_rfl, ?_⟩) hHeld ?_
  rotate_left
  · intro w' hSw; try dsimp only at hSw
    have d0 := (tb.kept hSw).cell' (i := 0) rfl
    have d1 := (tb.kept hSw).cell' (i := 1) rfl
    have d2 := (tb.kept hSw).cell' (i := 2) rfl
    have d3 := (tb.kept hSw).cell' (i := 3) rfl
    have u0 := (g3.kept hSw).cell' (i := 0) rfl
    have z2 := (qb.kept hSw).cell' (i := 2) rfl
    have m5 := (rb.kept hSw).cell' (i := 5) rfl
    go_simp; try (with_reducible rfl)
  try simp only [Act.put, List.getElem_toArray, List.getElem_cons_succ, List.getElem_cons_zero, List.setIfInBounds_toArray, List.set_cons_zero, List.set_cons_succ]
  refine wpAnyH_take (i := 4) (v := ?_) rfl (by kernel_rfl) (by kernel_rfl) (by kernel_rfl) (fun _ _ _ h => h) (Or.inl ⟨by kernel_rfl, ?_⟩) hHeld ?_
  rotate_left
  · intro w' hSw; try dsimp only at hSw
    have d0 := (tb.kept hSw).cell' (i := 0) rfl
    have d1 := (tb.kept hSw).cell' (i := 1) rfl
    have d2 := (tb.kept hSw).cell' (i := 2) rfl
    have d3 := (tb.kept hSw).cell' (i := 3) rfl
    have u0 := (g3.kept hSw).cell' (i := 0) rfl
    have z2 := (qb.kept hSw).cell' (i := 2) rfl
    have m5 := (rb.kept hSw).cell' (i := 5) rfl
    go_simp; try (with_reducible rfl)
  try simp only [Act.put, List.getElem_toArray, List.getElem_cons_succ, List.getElem_cons_zero, List.setIfInBounds_toArray, List.set_cons_zero, List.set_cons_succ]
  refine wpAnyH_ready (rs := [5]) (by kernel_rfl) (by simp) ?_
  refine AllReadyH.cons rfl (fun K hK => ?_) AllReadyH.nil
  go_simp
  refine (qpins_any (T0.below hHeld).Q i).mono ?_
  rintro e w' ⟨rfl, hw'⟩
  have hw2 := hw'.symm
  subst hw2
  clear hw'
  refine hK.out _ _ hHeld (fun hHeld => ?_)
  clear hK K
  try simp only [Act.put, List.getElem_toArray, List.getElem_cons_succ, List.getElem_cons_zero, List.setIfInBounds_toArray, List.set_cons_zero, List.set_cons_succ]
  refine wpAnyH_take (i := 6) (v := ?_) rfl (by kernel_rfl) (by kernel_rfl) (by kernel_rfl) (fun _ _ _ h => h) (Or.inl ⟨by kernel_rfl, ?_⟩) hHeld ?_
  rotate_left
  · intro w' hSw; try dsimp only at hSw
    have hp' := hpz
    go_simp; try (with_reducible rfl)
  try simp only [Act.put, List.getElem_toArray, List.getElem_cons_succ, List.getElem_cons_zero, List.setIfInBounds_toArray, List.set_cons_zero, List.set_cons_succ]
  refine wpAnyH_take (i := 7) (v := ?_) rfl (by kernel_rfl) (by kernel_rfl) (by kernel_rfl) (fun _ _ _ h => h) (Or.inl ⟨by kernel_rfl, ?_⟩) hHeld ?_
  rotate_left
  · intro w' hSw; try dsimp only at hSw
    have hp' := hpz
    go_simp; try (with_reducible rfl)
  try simp only [Act.put, List.getElem_toArray, List.getElem_cons_succ, List.getElem_cons_zero, List.setIfInBounds_toArray, List.set_cons_zero, List.set_cons_succ]
  refine wpAnyH_take (i := 8) (v := undef) rfl (by kernel_rfl) (by kernel_rfl) (by kernel_rfl) (fun _ _ _ h => h) (Or.inr ⟨by kernel_rfl, rfl⟩) hHeld ?_
  try simp only [Act.put, List.getElem_toArray, List.getElem_cons_succ, List.getElem_cons_zero, List.setIfInBounds_toArray, List.set_cons_zero, List.set_cons_succ]
  refine wpAnyH_take (i := 9) (v := undef) rfl (by kernel_rfl) (by kernel_rfl) (by kernel_rfl) (fun _ _ _ h => h) (Or.inr ⟨by kernel_rfl, rfl⟩) hHeld ?_
  try simp only [Act.put, List.getElem_toArray, List.getElem_cons_succ, List.getElem_cons_zero, List.setIfInBounds_toArray, List.set_cons_zero, List.set_cons_succ]
  refine wpAnyH_take (i := 10) (v := undef) rfl (by kernel_rfl) (by kernel_rfl) (by kernel_rfl) (fun _ _ _ h => h) (Or.inr ⟨by kernel_rfl, rfl⟩) hHeld ?_
  try simp only [Act.put, List.getElem_toArray, List.getElem_cons_succ, List.getElem_cons_zero, List.setIfInBounds_toArray, List.set_cons_zero, List.set_cons_succ]
  refine wpAnyH_take (i := 11) (v := undef) rfl (by kernel_rfl) (by kernel_rfl) (by kernel_rfl) (fun _ _ _ h => h) (Or.inr ⟨by kernel_rfl, rfl⟩) hHeld ?_
  try simp only [Act.put, List.getElem_toArray, List.getElem_cons_succ, List.getElem_cons_zero, List.setIfInBounds_toArray, List.set_cons_zero, List.set_cons_succ]
  refine wpAnyH_take (i := 12) (v := undef) rfl (by kernel_rfl) (by kernel_rfl) (by kernel_rfl) (fun _ _ _ h => h) (Or.inr ⟨by kernel_rfl, rfl⟩) hHeld ?_
  try simp only [Act.put, List.getElem_toArray, List.getElem_cons_succ, List.getElem_cons_zero, List.setIfInBounds_toArray, List.set_cons_zero, List.set_cons_succ]
  refine wpAnyH_take (i := 13) (v := undef) rfl (by kernel_rfl) (by kernel_rfl) (by kernel_rfl) (fun _ _ _ h => h) (Or.inr ⟨by kernel_rfl, rfl⟩) hHeld ?_
  try simp only [Act.put, List.getElem_toArray, List.getElem_cons_succ, List.getElem_cons_zero, List.setIfInBounds_toArray, List.set_cons_zero, List.set_cons_succ]
  refine wpAnyH_take (i := 14) (v := undef) rfl (by kernel_rfl) (by kernel_rfl) (by kernel_rfl) (fun _ _ _ h => h) (Or.inr ⟨by kernel_rfl, rfl⟩) hHeld ?_
  try simp only [Act.put, List.getElem_toArray, List.getElem_cons_succ, List.getElem_cons_zero, List.setIfInBounds_toArray, List.set_cons_zero, List.set_cons_succ]
  refine wpAnyH_take (i := 15) (v := undef) rfl (by kernel_rfl) (by kernel_rfl) (by kernel_rfl) (fun _ _ _ h => h) (Or.inr ⟨by kernel_rfl, rfl⟩) hHeld ?_
  try simp only [Act.put, List.getElem_toArray, List.getElem_cons_succ, List.getElem_cons_zero, List.setIfInBounds_toArray, List.set_cons_zero, List.set_cons_succ]
  refine wpAnyH_take (i := 16) (v := undef) rfl (by kernel_rfl) (by kernel_rfl) (by kernel_rfl) (fun _ _ _ h => h) (Or.inr ⟨by kernel_rfl, rfl⟩) hHeld ?_
  try simp only [Act.put, List.getElem_toArray, List.getElem_cons_succ, List.getElem_cons_zero, List.setIfInBounds_toArray, List.set_cons_zero, List.set_cons_succ]
  refine wpAnyH_take (i := 17) (v := ?_) rfl (by kernel_rfl) (by kernel_rfl) (by kernel_rfl) (fun _ _ _ h => h) (Or.inl ⟨by kernel_rfl, ?_⟩) hHeld ?_
  rotate_left
  · intro w' hSw; try dsimp only at hSw
    go_simp; try (with_reducible rfl)
  try simp only [Act.put, List.getElem_toArray, List.getElem_cons_succ, List.getElem_cons_zero, List.setIfInBounds_toArray, List.set_cons_zero, List.set_cons_succ]
  refine wpAnyH_take (i := 18) (v := ?_) rfl (by kernel_rfl) (by kernel_rfl) (by kernel_rfl) (fun _ _ _ h => h) (Or.inl ⟨by kernel_rfl, ?_⟩) hHeld ?_
  rotate_left
  · intro w' hSw; try dsimp only at hSw
    go_simp; try (with_reducible rfl)
  try simp only [Act.put, List.getElem_toArray, List.getElem_cons_succ, List.getElem_cons_zero, List.setIfInBounds_toArray, List.set_cons_zero, List.set_cons_succ]
  refine wpAnyH_done (by kernel_rfl) ?_ _
  refine NoPanic.normal ?_
  have hbU := bt hb0 hHeld
  have TU := T0.below hHeld
  have tbU := TU.tb
  have g3U := g3.kept hHeld
  have qbU := TU.Q.blk
  have rbU := TU.Q.ref.blk
  clear hHeld tb qb rb g3 T0 hb0
  rw [HLV.out] at qbU
  generalize V.drew = U at *
  go_wp2
  refine wp_region_noPanic ?_
  refine wp_region_held_drew (S := (fun X => Below U.heap.size U X)) (by kernel_rfl) (Below.refl _ _).drew (fun hHeld => ?_)
  refine wpAnyH_take_at (i := 0) (v := ?_) (some 24) rfl (by kernel_rfl) (by kernel_rfl) (by kernel_rfl) (by kernel_rfl) (fun _ _ _ h => h) (Or.inl ⟨by kernel_rfl, ?_⟩) hHeld ?_
  rotate_left
  · intro w' hSw; try dsimp only at hSw
    have d0 := (tbU.kept hSw).cell' (i := 0) rfl
    have d1 := (tbU.kept hSw).cell' (i := 1) rfl
    have d2 := (tbU.kept hSw).cell' (i := 2) rfl
    have d3 := (tbU.kept hSw).cell' (i := 3) rfl
    have u0 := (g3U.kept hSw).cell' (i := 0) rfl
    have z2 := (qbU.kept hSw).cell' (i := 2) rfl
    have m5 := (rbU.kept hSw).cell' (i := 5) rfl
    go_simp; try (with_reducible rfl)
  try simp only [Act.put, List.getElem_toArray, List.getElem_cons_succ, List.getElem_cons_zero, List.setIfInBounds_toArray, List.set_cons_zero, List.set_cons_succ]
  refine wpAnyH_take_at (i := 1) (v := ?_) (some 25) rfl (by kernel_rfl) (by kernel_rfl) (by kernel_rfl) (by kernel_rfl) (fun _ _ _ h => h) (Or.inl ⟨by kernel_rfl, ?_⟩) hHeld ?_
  rotate_left
  · intro w' hSw; try dsimp only at hSw
    have d0 := (tbU.kept hSw).cell' (i := 0) rfl
    have d1 := (tbU.kept hSw).cell' (i := 1) rfl
    have d2 := (tbU.kept hSw).cell' (i := 2) rfl
    have d3 := (tbU.kept hSw).cell' (i := 3) rfl
    have u0 := (g3U.kept hSw).cell' (i := 0) rfl
    have z2 := (qbU.kept hSw).cell' (i := 2) rfl
    have m5 := (rbU.kept hSw).cell' (i := 5) rfl
    go_simp; try (with_reducible rfl)
  try simp only [Act.put, List.getElem_toArray, List.getElem_cons_succ, List.getElem_cons_zero, List.setIfInBounds_toArray, List.set_cons_zero, List.set_cons_succ]
  refine wpAnyH_take_at (i := 2) (v := ?_) (some 26) rfl (by kernel_rfl) (by kernel_rfl) (by kernel_rfl) (by kernel_rfl) (fun _ _ _ h => h) (Or.inl ⟨by kernel_rfl, ?_⟩) hHeld ?_
  rotate_left
  · intro w' hSw; try dsimp only at hSw
    have d0 := (tbU.kept hSw).cell' (i := 0) rfl
    have d1 := (tbU.kept hSw).cell' (i := 1) rfl
    have d2 := (tbU.kept hSw).cell' (i := 2) rfl
    have d3 := (tbU.kept hSw).cell' (i := 3) rfl
    have u0 := (g3U.kept hSw).cell' (i := 0) rfl
    have z2 := (qbU.kept hSw).cell' (i := 2) rfl
    have m5 := (rbU.kept hSw).cell' (i := 5) rfl
    go_simp; try (with_reducible rfl)
  try simp only [Act.put, List.getElem_toArray, List.getElem_cons_succ, List.getElem_cons_zero, List.setIfInBounds_toArray, List.set_cons_zero, List.set_cons_succ]
  refine wpAnyH_take_at (i := 3) (v := ?_) (some 27) rfl (by kernel_rfl) (by kernel_rfl) (by kernel_rfl) (by kernel_rfl) (fun _ _ _ h => h) (Or.inl ⟨by kernel_rfl, ?_⟩) hHeld ?_
  rotate_left
  · intro w' hSw; try dsimp only at hSw
    have d0 := (tbU.kept hSw).cell' (i := 0) rfl
    have d1 := (tbU.kept hSw).cell' (i := 1) rfl
    have d2 := (tbU.kept hSw).cell' (i := 2) rfl
    have d3 := (tbU.kept hSw).cell' (i := 3) rfl
    have u0 := (g3U.kept hSw).cell' (i := 0) rfl
    have z2 := (qbU.kept hSw).cell' (i := 2) rfl
    have m5 := (rbU.kept hSw).cell' (i := 5) rfl
    go_simp; try (with_reducible rfl)
  try simp only [Act.put, List.getElem_toArray, List.getElem_cons_succ, List.getElem_cons_zero, List.setIfInBounds_toArray, List.set_cons_zero, List.set_cons_succ]
  refine wpAnyH_take_at (i := 6) (v := ?_) (some 30) rfl (by kernel_rfl) (by kernel_rfl) (by kernel_rfl) (by kernel_rfl) (fun _ _ _ h => h) (Or.inl ⟨by kernel_rfl, ?_⟩) hHeld ?_
  rotate_left
  · intro w' hSw; try dsimp only at hSw
    have d0 := (tbU.kept hSw).cell' (i := 0) rfl
    have d1 := (tbU.kept hSw).cell' (i := 1) rfl
    have d2 := (tbU.kept hSw).cell' (i := 2) rfl
    have d3 := (tbU.kept hSw).cell' (i := 3) rfl
    have u0 := (g3U.kept hSw).cell' (i := 0) rfl
    have z2 := (qbU.kept hSw).cell' (i := 2) rfl
    have m5 := (rbU.kept hSw).cell' (i := 5) rfl
    go_simp; try (with_reducible rfl)
  try simp only [Act.put, List.getElem_toArray, List.getElem_cons_succ, List.getElem_cons_zero, List.setIfInBounds_toArray, List.set_cons_zero, List.set_cons_succ]
  refine wpAnyH_take_at (i := 7) (v := ?_) (some 31) rfl (by kernel_rfl) (by kernel_rfl) (by kernel_rfl) (by kernel_rfl) (fun _ _ _ h => h) (Or.inl ⟨by kernel_rfl, ?_⟩) hHeld ?_
  rotate_left
  · intro w' hSw; try dsimp only at hSw
    have d0 := (tbU.kept hSw).cell' (i := 0) rfl
    have d1 := (tbU.kept hSw).cell' (i := 1) rfl
    have d2 := (tbU.kept hSw).cell' (i := 2) rfl
    have d3 := (tbU.kept hSw).cell' (i := 3) rfl
    have u0 := (g3U.kept hSw).cell' (i := 0) rfl
    have z2 := (qbU.kept hSw).cell' (i := 2) rfl
    have m5 := (rbU.kept hSw).cell' (i := 5) rfl
    go_simp; try (with_reducible rfl)
  try simp only [Act.put, List.getElem_toArray, List.getElem_cons_succ, List.getElem_cons_zero, List.setIfInBounds_toArray, List.set_cons_zero, List.set_cons_succ]
  refine wpAnyH_take_at (i := 8) (v := ?_) (some 32) rfl (by kernel_rfl) (by kernel_rfl) (by kernel_rfl) (by kernel_rfl) (fun _ _ _ h => h) (Or.inl ⟨by kernel_rfl, ?_⟩) hHeld ?_
  rotate_left
  · intro w' hSw; try dsimp only at hSw
    have d0 := (tbU.kept hSw).cell' (i := 0) rfl
    have d1 := (tbU.kept hSw).cell' (i := 1) rfl
    have d2 := (tbU.kept hSw).cell' (i := 2) rfl
    have d3 := (tbU.kept hSw).cell' (i := 3) rfl
    have u0 := (g3U.kept hSw).cell' (i := 0) rfl
    have z2 := (qbU.kept hSw).cell' (i := 2) rfl
    have m5 := (rbU.kept hSw).cell' (i := 5) rfl
    go_simp; try (with_reducible rfl)
  try simp only [Act.put, List.getElem_toArray, List.getElem_cons_succ, List.getElem_cons_zero, List.setIfInBounds_toArray, List.set_cons_zero, List.set_cons_succ]
  refine wpAnyH_take_at (i := 9) (v := ?_) (some 33) rfl (by kernel_rfl) (by kernel_rfl) (by kernel_rfl) (by kernel_rfl) (fun _ _ _ h => h) (Or.inl ⟨by kernel_rfl, ?_⟩) hHeld ?_
  rotate_left
  · intro w' hSw; try dsimp only at hSw
    have d0 := (tbU.kept hSw).cell' (i := 0) rfl
    have d1 := (tbU.kept hSw).cell' (i := 1) rfl
    have d2 := (tbU.kept hSw).cell' (i := 2) rfl
    have d3 := (tbU.kept hSw).cell' (i := 3) rfl
    have u0 := (g3U.kept hSw).cell' (i := 0) rfl
    have z2 := (qbU.kept hSw).cell' (i := 2) rfl
    have m5 := (rbU.kept hSw).cell' (i := 5) rfl
    go_simp; try (with_reducible rfl)
  try simp only [Act.put, List.getElem_toArray, List.getElem_cons_succ, List.getElem_cons_zero, List.setIfInBounds_toArray, List.set_cons_zero, List.set_cons_succ]
  refine wpAnyH_ready (rs := [4]) (by kernel_rfl) (by simp) ?_
  refine AllReadyH.cons rfl (fun K hK => ?_) AllReadyH.nil
  go_simp
  refine (show Calls Tryz.prog 50 #[.pointer (some ⟨c.c, 0, none⟩), .int .i64 1] _ _ from cDirty_any (TU.below hHeld).C 1 (by decide)).mono ?_
  rintro e x1a ⟨Bs1, c11, p11, rfl, hbs1, hin1, hb1a, hlow1⟩
  have hH1a := bt hHeld hb1a
  refine hK.out _ _ hH1a (fun hHeld => ?_)
  clear hK K
  try simp only [Act.put, List.getElem_toArray, List.getElem_cons_succ, List.getElem_cons_zero, List.setIfInBounds_toArray, List.set_cons_zero, List.set_cons_succ]
  refine wpAnyH_ready (rs := [5]) (by kernel_rfl) (by simp) ?_
  refine AllReadyH.cons rfl (fun K hK => ?_) AllReadyH.nil
  go_simp
  refine (told_dirt 1 hn2 Bs1 c11 p11 hbs1 hin1 hlow1).mono ?_
  rintro e x1b ⟨pt1, nt1, ct1, rfl, hit1, hb1b⟩
  have hH1b := bt hHeld hb1b
  refine hK.out _ _ hH1b (fun hHeld => ?_)
  clear hK K
  try simp only [Act.put, List.getElem_toArray, List.getElem_cons_succ, List.getElem_cons_zero, List.setIfInBounds_toArray, List.set_cons_zero, List.set_cons_succ]
  refine wpAnyH_ready (rs := [10]) (by kernel_rfl) (by simp) ?_
  refine AllReadyH.cons rfl (fun K hK => ?_) AllReadyH.nil
  go_simp
  refine (show Calls Tryz.prog 51 #[.pointer (some ⟨q.q, 0, none⟩), .int .i64 1] _ _ from qdirty_any (TU.below hHeld).Q 1 (by decide)).mono ?_
  rintro e x1c ⟨pq1, nq1, cq1, rfl, hiq1, hb1c, -⟩
  rw [HD1.out] at hiq1
  have hit1c := hit1.below hb1c
  have hnn1 : nq1 = nt1 := by rw [← hiq1.len, ← hit1.len]
  subst hnn1
  have hH1c := bt hHeld hb1c
  refine hK.out _ _ hH1c (fun hHeld => ?_)
  clear hK K
  try simp only [Act.put, List.getElem_toArray, List.getElem_cons_succ, List.getElem_cons_zero, List.setIfInBounds_toArray, List.set_cons_zero, List.set_cons_succ]
  refine wpAnyH_ready (rs := [11]) (by kernel_rfl) (by simp) ?_
  refine AllReadyH.cons rfl (fun K hK => ?_) AllReadyH.nil
  go_simp
  refine (equalI_yes pt1 pq1 nq1 ct1 cq1 _ _ hit1c hiq1).mono ?_
  rintro e x1d ⟨rfl, hb1d⟩
  have hH1d := bt hHeld hb1d
  refine hK.out _ _ hH1d (fun hHeld => ?_)
  clear hK K
  try simp only [Act.put, List.getElem_toArray, List.getElem_cons_succ, List.getElem_cons_zero, List.setIfInBounds_toArray, List.set_cons_zero, List.set_cons_succ]
  refine wpAnyH_take_at (i := 12) (v := ?_) (some 36) rfl (by kernel_rfl) (by kernel_rfl) (by kernel_rfl) (by kernel_rfl) (fun _ _ _ h => h) (Or.inl ⟨by kernel_rfl, ?_⟩) hHeld ?_
  rotate_left
  · intro w' hSw; try dsimp only at hSw
    have d0 := (tbU.kept hSw).cell' (i := 0) rfl
    have d1 := (tbU.kept hSw).cell' (i := 1) rfl
    have d2 := (tbU.kept hSw).cell' (i := 2) rfl
    have d3 := (tbU.kept hSw).cell' (i := 3) rfl
    have u0 := (g3U.kept hSw).cell' (i := 0) rfl
    have z2 := (qbU.kept hSw).cell' (i := 2) rfl
    have m5 := (rbU.kept hSw).cell' (i := 5) rfl
    go_simp; try (with_reducible rfl)
  try simp only [Act.put, List.getElem_toArray, List.getElem_cons_succ, List.getElem_cons_zero, List.setIfInBounds_toArray, List.set_cons_zero, List.set_cons_succ]
  refine wpAnyH_take_at (i := 13) (v := ?_) (some 37) rfl (by kernel_rfl) (by kernel_rfl) (by kernel_rfl) (by kernel_rfl) (fun _ _ _ h => h) (Or.inl ⟨by kernel_rfl, ?_⟩) hHeld ?_
  rotate_left
  · intro w' hSw; try dsimp only at hSw
    have d0 := (tbU.kept hSw).cell' (i := 0) rfl
    have d1 := (tbU.kept hSw).cell' (i := 1) rfl
    have d2 := (tbU.kept hSw).cell' (i := 2) rfl
    have d3 := (tbU.kept hSw).cell' (i := 3) rfl
    have u0 := (g3U.kept hSw).cell' (i := 0) rfl
    have z2 := (qbU.kept hSw).cell' (i := 2) rfl
    have m5 := (rbU.kept hSw).cell' (i := 5) rfl
    go_simp; try (with_reducible rfl)
  try simp only [Act.put, List.getElem_toArray, List.getElem_cons_succ, List.getElem_cons_zero, List.setIfInBounds_toArray, List.set_cons_zero, List.set_cons_succ]
  refine wpAnyH_take_at (i := 14) (v := ?_) (some 38) rfl (by kernel_rfl) (by kernel_rfl) (by kernel_rfl) (by kernel_rfl) (fun _ _ _ h => h) (Or.inl ⟨by kernel_rfl, ?_⟩) hHeld ?_
  rotate_left
  · intro w' hSw; try dsimp only at hSw
    have d0 := (tbU.kept hSw).cell' (i := 0) rfl
    have d1 := (tbU.kept hSw).cell' (i := 1) rfl
    have d2 := (tbU.kept hSw).cell' (i := 2) rfl
    have d3 := (tbU.kept hSw).cell' (i := 3) rfl
    have u0 := (g3U.kept hSw).cell' (i := 0) rfl
    have z2 := (qbU.kept hSw).cell' (i := 2) rfl
    have m5 := (rbU.kept hSw).cell' (i := 5) rfl
    go_simp; try (with_reducible rfl)
  try simp only [Act.put, List.getElem_toArray, List.getElem_cons_succ, List.getElem_cons_zero, List.setIfInBounds_toArray, List.set_cons_zero, List.set_cons_succ]
  refine wpAnyH_take_at (i := 15) (v := ?_) (some 39) rfl (by kernel_rfl) (by kernel_rfl) (by kernel_rfl) (by kernel_rfl) (fun _ _ _ h => h) (Or.inl ⟨by kernel_rfl, ?_⟩) hHeld ?_
  rotate_left
  · intro w' hSw; try dsimp only at hSw
    have d0 := (tbU.kept hSw).cell' (i := 0) rfl
    have d1 := (tbU.kept hSw).cell' (i := 1) rfl
    have d2 := (tbU.kept hSw).cell' (i := 2) rfl
    have d3 := (tbU.kept hSw).cell' (i := 3) rfl
    have u0 := (g3U.kept hSw).cell' (i := 0) rfl
    have z2 := (qbU.kept hSw).cell' (i := 2) rfl
    have m5 := (rbU.kept hSw).cell' (i := 5) rfl
    go_simp; try (with_reducible rfl)
  try simp only [Act.put, List.getElem_toArray, List.getElem_cons_succ, List.getElem_cons_zero, List.setIfInBounds_toArray, List.set_cons_zero, List.set_cons_succ]
  refine wpAnyH_take_at (i := 16) (v := ?_) (some 40) rfl (by kernel_rfl) (by kernel_rfl) (by kernel_rfl) (by kernel_rfl) (fun _ _ _ h => h) (Or.inl ⟨by kernel_rfl, ?_⟩) hHeld ?_
  rotate_left
  · intro w' hSw; try dsimp only at hSw
    have d0 := (tbU.kept hSw).cell' (i := 0) rfl
    have d1 := (tbU.kept hSw).cell' (i := 1) rfl
    have d2 := (tbU.kept hSw).cell' (i := 2) rfl
    have d3 := (tbU.kept hSw).cell' (i := 3) rfl
    have u0 := (g3U.kept hSw).cell' (i := 0) rfl
    have z2 := (qbU.kept hSw).cell' (i := 2) rfl
    have m5 := (rbU.kept hSw).cell' (i := 5) rfl
    go_simp; try (with_reducible rfl)
  try simp only [Act.put, List.getElem_toArray, List.getElem_cons_succ, List.getElem_cons_zero, List.setIfInBounds_toArray, List.set_cons_zero, List.set_cons_succ]
  refine wpAnyH_take_at (i := 19) (v := ?_) (some 43) rfl (by kernel_rfl) (by kernel_rfl) (by kernel_rfl) (by kernel_rfl) (fun _ _ _ h => h) (Or.inl ⟨by kernel_rfl, ?_⟩) hHeld ?_
  rotate_left
  · intro w' hSw; try dsimp only at hSw
    have d0 := (tbU.kept hSw).cell' (i := 0) rfl
    have d1 := (tbU.kept hSw).cell' (i := 1) rfl
    have d2 := (tbU.kept hSw).cell' (i := 2) rfl
    have d3 := (tbU.kept hSw).cell' (i := 3) rfl
    have u0 := (g3U.kept hSw).cell' (i := 0) rfl
    have z2 := (qbU.kept hSw).cell' (i := 2) rfl
    have m5 := (rbU.kept hSw).cell' (i := 5) rfl
    go_simp; try (with_reducible rfl)
  try simp only [Act.put, List.getElem_toArray, List.getElem_cons_succ, List.getElem_cons_zero, List.setIfInBounds_toArray, List.set_cons_zero, List.set_cons_succ]
  refine wpAnyH_take_at (i := 20) (v := ?_) (some 44) rfl (by kernel_rfl) (by kernel_rfl) (by kernel_rfl) (by kernel_rfl) (fun _ _ _ h => h) (Or.inl ⟨by kernel_rfl, ?_⟩) hHeld ?_
  rotate_left
  · intro w' hSw; try dsimp only at hSw
    have d0 := (tbU.kept hSw).cell' (i := 0) rfl
    have d1 := (tbU.kept hSw).cell' (i := 1) rfl
    have d2 := (tbU.kept hSw).cell' (i := 2) rfl
    have d3 := (tbU.kept hSw).cell' (i := 3) rfl
    have u0 := (g3U.kept hSw).cell' (i := 0) rfl
    have z2 := (qbU.kept hSw).cell' (i := 2) rfl
    have m5 := (rbU.kept hSw).cell' (i := 5) rfl
    go_simp; try (with_reducible rfl)
  try simp only [Act.put, List.getElem_toArray, List.getElem_cons_succ, List.getElem_cons_zero, List.setIfInBounds_toArray, List.set_cons_zero, List.set_cons_succ]
  refine wpAnyH_take_at (i := 21) (v := ?_) (some 45) rfl (by kernel_rfl) (by kernel_rfl) (by kernel_rfl) (by kernel_rfl) (fun _ _ _ h => h) (Or.inl ⟨by kernel_rfl, ?_⟩) hHeld ?_
  rotate_left
  · intro w' hSw; try dsimp only at hSw
    have d0 := (tbU.kept hSw).cell' (i := 0) rfl
    have d1 := (tbU.kept hSw).cell' (i := 1) rfl
    have d2 := (tbU.kept hSw).cell' (i := 2) rfl
    have d3 := (tbU.kept hSw).cell' (i := 3) rfl
    have u0 := (g3U.kept hSw).cell' (i := 0) rfl
    have z2 := (qbU.kept hSw).cell' (i := 2) rfl
    have m5 := (rbU.kept hSw).cell' (i := 5) rfl
    go_simp; try (with_reducible rfl)
  try simp only [Act.put, List.getElem_toArray, List.getElem_cons_succ, List.getElem_cons_zero, List.setIfInBounds_toArray, List.set_cons_zero, List.set_cons_succ]
  refine wpAnyH_take_at (i := 22) (v := ?_) (some 46) rfl (by kernel_rfl) (by kernel_rfl) (by kernel_rfl) (by kernel_rfl) (fun _ _ _ h => h) (Or.inl ⟨by kernel_rfl, ?_⟩) hHeld ?_
  rotate_left
  · intro w' hSw; try dsimp only at hSw
    have d0 := (tbU.kept hSw).cell' (i := 0) rfl
    have d1 := (tbU.kept hSw).cell' (i := 1) rfl
    have d2 := (tbU.kept hSw).cell' (i := 2) rfl
    have d3 := (tbU.kept hSw).cell' (i := 3) rfl
    have u0 := (g3U.kept hSw).cell' (i := 0) rfl
    have z2 := (qbU.kept hSw).cell' (i := 2) rfl
    have m5 := (rbU.kept hSw).cell' (i := 5) rfl
    go_simp; try (with_reducible rfl)
  try simp only [Act.put, List.getElem_toArray, List.getElem_cons_succ, List.getElem_cons_zero, List.setIfInBounds_toArray, List.set_cons_zero, List.set_cons_succ]
  refine wpAnyH_ready (rs := [17]) (by kernel_rfl) (by simp) ?_
  refine AllReadyH.cons rfl (fun K hK => ?_) AllReadyH.nil
  go_simp
  refine (show Calls Tryz.prog 50 #[.pointer (some ⟨c.c, 0, none⟩), .int .i64 2] _ _ from cDirty_any (TU.below hHeld).C 2 (by decide)).mono ?_
  rintro e x2a ⟨Bs2, c12, p12, rfl, hbs2, hin2, hb2a, hlow2⟩
  have hH2a := bt hHeld hb2a
  refine hK.out _ _ hH2a (fun hHeld => ?_)
  clear hK K
  try simp only [Act.put, List.getElem_toArray, List.getElem_cons_succ, List.getElem_cons_zero, List.setIfInBounds_toArray, List.set_cons_zero, List.set_cons_succ]
  refine wpAnyH_ready (rs := [18]) (by kernel_rfl) (by simp) ?_
  refine AllReadyH.cons rfl (fun K hK => ?_) AllReadyH.nil
  go_simp
  refine (told_dirt 2 hn2 Bs2 c12 p12 hbs2 hin2 hlow2).mono ?_
  rintro e x2b ⟨pt2, nt2, ct2, rfl, hit2, hb2b⟩
  have hH2b := bt hHeld hb2b
  refine hK.out _ _ hH2b (fun hHeld => ?_)
  clear hK K
  try simp only [Act.put, List.getElem_toArray, List.getElem_cons_succ, List.getElem_cons_zero, List.setIfInBounds_toArray, List.set_cons_zero, List.set_cons_succ]
  refine wpAnyH_ready (rs := [23]) (by kernel_rfl) (by simp) ?_
  refine AllReadyH.cons rfl (fun K hK => ?_) AllReadyH.nil
  go_simp
  refine (show Calls Tryz.prog 51 #[.pointer (some ⟨q.q, 0, none⟩), .int .i64 2] _ _ from qdirty_any (TU.below hHeld).Q 2 (by decide)).mono ?_
  rintro e x2c ⟨pq2, nq2, cq2, rfl, hiq2, hb2c, -⟩
  rw [HD2.out] at hiq2
  have hit2c := hit2.below hb2c
  have hnn2 : nq2 = nt2 := by rw [← hiq2.len, ← hit2.len]
  subst hnn2
  have hH2c := bt hHeld hb2c
  refine hK.out _ _ hH2c (fun hHeld => ?_)
  clear hK K
  try simp only [Act.put, List.getElem_toArray, List.getElem_cons_succ, List.getElem_cons_zero, List.setIfInBounds_toArray, List.set_cons_zero, List.set_cons_succ]
  refine wpAnyH_ready (rs := [24]) (by kernel_rfl) (by simp) ?_
  refine AllReadyH.cons rfl (fun K hK => ?_) AllReadyH.nil
  go_simp
  refine (equalI_yes pt2 pq2 nq2 ct2 cq2 _ _ hit2c hiq2).mono ?_
  rintro e x2d ⟨rfl, hb2d⟩
  have hH2d := bt hHeld hb2d
  refine hK.out _ _ hH2d (fun hHeld => ?_)
  clear hK K
  try simp only [Act.put, List.getElem_toArray, List.getElem_cons_succ, List.getElem_cons_zero, List.setIfInBounds_toArray, List.set_cons_zero, List.set_cons_succ]
  refine wpAnyH_take_at (i := 25) (v := ?_) (some 49) rfl (by kernel_rfl) (by kernel_rfl) (by kernel_rfl) (by kernel_rfl) (fun _ _ _ h => h) (Or.inl ⟨by kernel_rfl, ?_⟩) hHeld ?_
  rotate_left
  · intro w' hSw; try dsimp only at hSw
    have d0 := (tbU.kept hSw).cell' (i := 0) rfl
    have d1 := (tbU.kept hSw).cell' (i := 1) rfl
    have d2 := (tbU.kept hSw).cell' (i := 2) rfl
    have d3 := (tbU.kept hSw).cell' (i := 3) rfl
    have u0 := (g3U.kept hSw).cell' (i := 0) rfl
    have z2 := (qbU.kept hSw).cell' (i := 2) rfl
    have m5 := (rbU.kept hSw).cell' (i := 5) rfl
    go_simp; try (with_reducible rfl)
  try simp only [Act.put, List.getElem_toArray, List.getElem_cons_succ, List.getElem_cons_zero, List.setIfInBounds_toArray, List.set_cons_zero, List.set_cons_succ]
  refine wpAnyH_take_at (i := 26) (v := ?_) (some 50) rfl (by kernel_rfl) (by kernel_rfl) (by kernel_rfl) (by kernel_rfl) (fun _ _ _ h => h) (Or.inl ⟨by kernel_rfl, ?_⟩) hHeld ?_
  rotate_left
  · intro w' hSw; try dsimp only at hSw
    have d0 := (tbU.kept hSw).cell' (i := 0) rfl
    have d1 := (tbU.kept hSw).cell' (i := 1) rfl
    have d2 := (tbU.kept hSw).cell' (i := 2) rfl
    have d3 := (tbU.kept hSw).cell' (i := 3) rfl
    have u0 := (g3U.kept hSw).cell' (i := 0) rfl
    have z2 := (qbU.kept hSw).cell' (i := 2) rfl
    have m5 := (rbU.kept hSw).cell' (i := 5) rfl
    go_simp; try (with_reducible rfl)
  try simp only [Act.put, List.getElem_toArray, List.getElem_cons_succ, List.getElem_cons_zero, List.setIfInBounds_toArray, List.set_cons_zero, List.set_cons_succ]
  refine wpAnyH_take_at (i := 27) (v := ?_) (some 51) rfl (by kernel_rfl) (by kernel_rfl) (by kernel_rfl) (by kernel_rfl) (fun _ _ _ h => h) (Or.inl ⟨by kernel_rfl, ?_⟩) hHeld ?_
  rotate_left
  · intro w' hSw; try dsimp only at hSw
    have d0 := (tbU.kept hSw).cell' (i := 0) rfl
    have d1 := (tbU.kept hSw).cell' (i := 1) rfl
    have d2 := (tbU.kept hSw).cell' (i := 2) rfl
    have d3 := (tbU.kept hSw).cell' (i := 3) rfl
    have u0 := (g3U.kept hSw).cell' (i := 0) rfl
    have z2 := (qbU.kept hSw).cell' (i := 2) rfl
    have m5 := (rbU.kept hSw).cell' (i := 5) rfl
    go_simp; try (with_reducible rfl)
  try simp only [Act.put, List.getElem_toArray, List.getElem_cons_succ, List.getElem_cons_zero, List.setIfInBounds_toArray, List.set_cons_zero, List.set_cons_succ]
  refine wpAnyH_take_at (i := 28) (v := ?_) (some 52) rfl (by kernel_rfl) (by kernel_rfl) (by kernel_rfl) (by kernel_rfl) (fun _ _ _ h => h) (Or.inl ⟨by kernel_rfl, ?_⟩) hHeld ?_
  rotate_left
  · intro w' hSw; try dsimp only at hSw
    have d0 := (tbU.kept hSw).cell' (i := 0) rfl
    have d1 := (tbU.kept hSw).cell' (i := 1) rfl
    have d2 := (tbU.kept hSw).cell' (i := 2) rfl
    have d3 := (tbU.kept hSw).cell' (i := 3) rfl
    have u0 := (g3U.kept hSw).cell' (i := 0) rfl
    have z2 := (qbU.kept hSw).cell' (i := 2) rfl
    have m5 := (rbU.kept hSw).cell' (i := 5) rfl
    go_simp; try (with_reducible rfl)
  try simp only [Act.put, List.getElem_toArray, List.getElem_cons_succ, List.getElem_cons_zero, List.setIfInBounds_toArray, List.set_cons_zero, List.set_cons_succ]
  refine wpAnyH_take_at (i := 29) (v := ?_) (some 53) rfl (by kernel_rfl) (by kernel_rfl) (by kernel_rfl) (by kernel_rfl) (fun _ _ _ h => h) (Or.inl ⟨by kernel_rfl, ?_⟩) hHeld ?_
  rotate_left
  · intro w' hSw; try dsimp only at hSw
    have d0 := (tbU.kept hSw).cell' (i := 0) rfl
    have d1 := (tbU.kept hSw).cell' (i := 1) rfl
    have d2 := (tbU.kept hSw).cell' (i := 2) rfl
    have d3 := (tbU.kept hSw).cell' (i := 3) rfl
    have u0 := (g3U.kept hSw).cell' (i := 0) rfl
    have z2 := (qbU.kept hSw).cell' (i := 2) rfl
    have m5 := (rbU.kept hSw).cell' (i := 5) rfl
    go_simp; try (with_reducible rfl)
  try simp only [Act.put, List.getElem_toArray, List.getElem_cons_succ, List.getElem_cons_zero, List.setIfInBounds_toArray, List.set_cons_zero, List.set_cons_succ]
  refine wpAnyH_take_at (i := 30) (v := ?_) (some 54) rfl (by kernel_rfl) (by kernel_rfl) (by kernel_rfl) (by kernel_rfl) (fun _ _ _ h => h) (Or.inl ⟨by kernel_rfl, ?_⟩) hHeld ?_
  rotate_left
  · intro w' hSw; try dsimp only at hSw
    have d0 := (tbU.kept hSw).cell' (i := 0) rfl
    have d1 := (tbU.kept hSw).cell' (i := 1) rfl
    have d2 := (tbU.kept hSw).cell' (i := 2) rfl
    have d3 := (tbU.kept hSw).cell' (i := 3) rfl
    have u0 := (g3U.kept hSw).cell' (i := 0) rfl
    have z2 := (qbU.kept hSw).cell' (i := 2) rfl
    have m5 := (rbU.kept hSw).cell' (i := 5) rfl
    go_simp; try (with_reducible rfl)
  try simp only [Act.put, List.getElem_toArray, List.getElem_cons_succ, List.getElem_cons_zero, List.setIfInBounds_toArray, List.set_cons_zero, List.set_cons_succ]
  refine wpAnyH_take_at (i := 31) (v := ?_) (some 55) rfl (by kernel_rfl) (by kernel_rfl) (by kernel_rfl) (by kernel_rfl) (fun _ _ _ h => h) (Or.inl ⟨by kernel_rfl, ?_⟩) hHeld ?_
  rotate_left
  · intro w' hSw; try dsimp only at hSw
    have d0 := (tbU.kept hSw).cell' (i := 0) rfl
    have d1 := (tbU.kept hSw).cell' (i := 1) rfl
    have d2 := (tbU.kept hSw).cell' (i := 2) rfl
    have d3 := (tbU.kept hSw).cell' (i := 3) rfl
    have u0 := (g3U.kept hSw).cell' (i := 0) rfl
    have z2 := (qbU.kept hSw).cell' (i := 2) rfl
    have m5 := (rbU.kept hSw).cell' (i := 5) rfl
    go_simp; try (with_reducible rfl)
  try simp only [Act.put, List.getElem_toArray, List.getElem_cons_succ, List.getElem_cons_zero, List.setIfInBounds_toArray, List.set_cons_zero, List.set_cons_succ]
  refine wpAnyH_take_at (i := 33) (v := ?_) (some 57) rfl (by kernel_rfl) (by kernel_rfl) (by kernel_rfl) (by kernel_rfl) (fun _ _ _ h => h) (Or.inl ⟨by kernel_rfl, ?_⟩) hHeld ?_
  rotate_left
  · intro w' hSw; try dsimp only at hSw
    have d0 := (tbU.kept hSw).cell' (i := 0) rfl
    have d1 := (tbU.kept hSw).cell' (i := 1) rfl
    have d2 := (tbU.kept hSw).cell' (i := 2) rfl
    have d3 := (tbU.kept hSw).cell' (i := 3) rfl
    have u0 := (g3U.kept hSw).cell' (i := 0) rfl
    have z2 := (qbU.kept hSw).cell' (i := 2) rfl
    have m5 := (rbU.kept hSw).cell' (i := 5) rfl
    go_simp; try (with_reducible rfl)
  try simp only [Act.put, List.getElem_toArray, List.getElem_cons_succ, List.getElem_cons_zero, List.setIfInBounds_toArray, List.set_cons_zero, List.set_cons_succ]
  refine wpAnyH_ready (rs := [32]) (by kernel_rfl) (by simp) ?_
  refine AllReadyH.cons rfl (fun K hK => ?_) AllReadyH.nil
  go_simp
  refine (chas_any (TU.below hHeld).C i).mono ?_
  rintro e x3 ⟨rfl, hb3⟩
  have hH3 := bt hHeld hb3
  rw [HHK.out]
  refine hK.out _ _ hH3 (fun hHeld => ?_)
  clear hK K
  try simp only [Act.put, List.getElem_toArray, List.getElem_cons_succ, List.getElem_cons_zero, List.setIfInBounds_toArray, List.set_cons_zero, List.set_cons_succ]
  refine wpAnyH_take_at (i := 34) (v := ?_) (some 58) rfl (by kernel_rfl) (by kernel_rfl) (by kernel_rfl) (by kernel_rfl) (fun _ _ _ h => h) (Or.inl ⟨by kernel_rfl, ?_⟩) hHeld ?_
  rotate_left
  · intro w' hSw; try dsimp only at hSw
    have d0 := (tbU.kept hSw).cell' (i := 0) rfl
    have d1 := (tbU.kept hSw).cell' (i := 1) rfl
    have d2 := (tbU.kept hSw).cell' (i := 2) rfl
    have d3 := (tbU.kept hSw).cell' (i := 3) rfl
    have u0 := (g3U.kept hSw).cell' (i := 0) rfl
    have z2 := (qbU.kept hSw).cell' (i := 2) rfl
    have m5 := (rbU.kept hSw).cell' (i := 5) rfl
    go_simp; try (with_reducible rfl)
  try simp only [Act.put, List.getElem_toArray, List.getElem_cons_succ, List.getElem_cons_zero, List.setIfInBounds_toArray, List.set_cons_zero, List.set_cons_succ]
  refine wpAnyH_take_at (i := 35) (v := ?_) (some 59) rfl (by kernel_rfl) (by kernel_rfl) (by kernel_rfl) (by kernel_rfl) (fun _ _ _ h => h) (Or.inl ⟨by kernel_rfl, ?_⟩) hHeld ?_
  rotate_left
  · intro w' hSw; try dsimp only at hSw
    have d0 := (tbU.kept hSw).cell' (i := 0) rfl
    have d1 := (tbU.kept hSw).cell' (i := 1) rfl
    have d2 := (tbU.kept hSw).cell' (i := 2) rfl
    have d3 := (tbU.kept hSw).cell' (i := 3) rfl
    have u0 := (g3U.kept hSw).cell' (i := 0) rfl
    have z2 := (qbU.kept hSw).cell' (i := 2) rfl
    have m5 := (rbU.kept hSw).cell' (i := 5) rfl
    go_simp; try (with_reducible rfl)
  try simp only [Act.put, List.getElem_toArray, List.getElem_cons_succ, List.getElem_cons_zero, List.setIfInBounds_toArray, List.set_cons_zero, List.set_cons_succ]
  refine wpAnyH_take_at (i := 36) (v := ?_) (some 60) rfl (by kernel_rfl) (by kernel_rfl) (by kernel_rfl) (by kernel_rfl) (fun _ _ _ h => h) (Or.inl ⟨by kernel_rfl, ?_⟩) hHeld ?_
  rotate_left
  · intro w' hSw; try dsimp only at hSw
    have d0 := (tbU.kept hSw).cell' (i := 0) rfl
    have d1 := (tbU.kept hSw).cell' (i := 1) rfl
    have d2 := (tbU.kept hSw).cell' (i := 2) rfl
    have d3 := (tbU.kept hSw).cell' (i := 3) rfl
    have u0 := (g3U.kept hSw).cell' (i := 0) rfl
    have z2 := (qbU.kept hSw).cell' (i := 2) rfl
    have m5 := (rbU.kept hSw).cell' (i := 5) rfl
    go_simp; try (with_reducible rfl)
  try simp only [Act.put, List.getElem_toArray, List.getElem_cons_succ, List.getElem_cons_zero, List.setIfInBounds_toArray, List.set_cons_zero, List.set_cons_succ]
  refine wpAnyH_take_at (i := 37) (v := ?_) (some 61) rfl (by kernel_rfl) (by kernel_rfl) (by kernel_rfl) (by kernel_rfl) (fun _ _ _ h => h) (Or.inl ⟨by kernel_rfl, ?_⟩) hHeld ?_
  rotate_left
  · intro w' hSw; try dsimp only at hSw
    have d0 := (tbU.kept hSw).cell' (i := 0) rfl
    have d1 := (tbU.kept hSw).cell' (i := 1) rfl
    have d2 := (tbU.kept hSw).cell' (i := 2) rfl
    have d3 := (tbU.kept hSw).cell' (i := 3) rfl
    have u0 := (g3U.kept hSw).cell' (i := 0) rfl
    have z2 := (qbU.kept hSw).cell' (i := 2) rfl
    have m5 := (rbU.kept hSw).cell' (i := 5) rfl
    go_simp; try (with_reducible rfl)
  try simp only [Act.put, List.getElem_toArray, List.getElem_cons_succ, List.getElem_cons_zero, List.setIfInBounds_toArray, List.set_cons_zero, List.set_cons_succ]
  refine wpAnyH_take_at (i := 38) (v := ?_) (some 62) rfl (by kernel_rfl) (by kernel_rfl) (by kernel_rfl) (by kernel_rfl) (fun _ _ _ h => h) (Or.inl ⟨by kernel_rfl, ?_⟩) hHeld ?_
  rotate_left
  · intro w' hSw; try dsimp only at hSw
    have d0 := (tbU.kept hSw).cell' (i := 0) rfl
    have d1 := (tbU.kept hSw).cell' (i := 1) rfl
    have d2 := (tbU.kept hSw).cell' (i := 2) rfl
    have d3 := (tbU.kept hSw).cell' (i := 3) rfl
    have u0 := (g3U.kept hSw).cell' (i := 0) rfl
    have z2 := (qbU.kept hSw).cell' (i := 2) rfl
    have m5 := (rbU.kept hSw).cell' (i := 5) rfl
    go_simp; try (with_reducible rfl)
  try simp only [Act.put, List.getElem_toArray, List.getElem_cons_succ, List.getElem_cons_zero, List.setIfInBounds_toArray, List.set_cons_zero, List.set_cons_succ]
  refine wpAnyH_take_at (i := 39) (v := ?_) (some 63) rfl (by kernel_rfl) (by kernel_rfl) (by kernel_rfl) (by kernel_rfl) (fun _ _ _ h => h) (Or.inl ⟨by kernel_rfl, ?_⟩) hHeld ?_
  rotate_left
  · intro w' hSw; try dsimp only at hSw
    have d0 := (tbU.kept hSw).cell' (i := 0) rfl
    have d1 := (tbU.kept hSw).cell' (i := 1) rfl
    have d2 := (tbU.kept hSw).cell' (i := 2) rfl
    have d3 := (tbU.kept hSw).cell' (i := 3) rfl
    have u0 := (g3U.kept hSw).cell' (i := 0) rfl
    have z2 := (qbU.kept hSw).cell' (i := 2) rfl
    have m5 := (rbU.kept hSw).cell' (i := 5) rfl
    go_simp; try (with_reducible rfl)
  try simp only [Act.put, List.getElem_toArray, List.getElem_cons_succ, List.getElem_cons_zero, List.setIfInBounds_toArray, List.set_cons_zero, List.set_cons_succ]
  refine wpAnyH_take_at (i := 40) (v := ?_) (some 64) rfl (by kernel_rfl) (by kernel_rfl) (by kernel_rfl) (by kernel_rfl) (fun _ _ _ h => h) (Or.inl ⟨by kernel_rfl, ?_⟩) hHeld ?_
  rotate_left
  · intro w' hSw; try dsimp only at hSw
    have d0 := (tbU.kept hSw).cell' (i := 0) rfl
    have d1 := (tbU.kept hSw).cell' (i := 1) rfl
    have d2 := (tbU.kept hSw).cell' (i := 2) rfl
    have d3 := (tbU.kept hSw).cell' (i := 3) rfl
    have u0 := (g3U.kept hSw).cell' (i := 0) rfl
    have z2 := (qbU.kept hSw).cell' (i := 2) rfl
    have m5 := (rbU.kept hSw).cell' (i := 5) rfl
    go_simp; try (with_reducible rfl)
  try simp only [Act.put, List.getElem_toArray, List.getElem_cons_succ, List.getElem_cons_zero, List.setIfInBounds_toArray, List.set_cons_zero, List.set_cons_succ]
  refine wpAnyH_take_at (i := 41) (v := ?_) (some 65) rfl (by kernel_rfl) (by kernel_rfl) (by kernel_rfl) (by kernel_rfl) (fun _ _ _ h => h) (Or.inl ⟨by kernel_rfl, ?_⟩) hHeld ?_
  rotate_left
  · intro w' hSw; try dsimp only at hSw
    have d0 := (tbU.kept hSw).cell' (i := 0) rfl
    have d1 := (tbU.kept hSw).cell' (i := 1) rfl
    have d2 := (tbU.kept hSw).cell' (i := 2) rfl
    have d3 := (tbU.kept hSw).cell' (i := 3) rfl
    have u0 := (g3U.kept hSw).cell' (i := 0) rfl
    have z2 := (qbU.kept hSw).cell' (i := 2) rfl
    have m5 := (rbU.kept hSw).cell' (i := 5) rfl
    go_simp; try (with_reducible rfl)
  try simp only [Act.put, List.getElem_toArray, List.getElem_cons_succ, List.getElem_cons_zero, List.setIfInBounds_toArray, List.set_cons_zero, List.set_cons_succ]
  refine wpAnyH_take_at (i := 43) (v := ?_) (some 67) rfl (by kernel_rfl) (by kernel_rfl) (by kernel_rfl) (by kernel_rfl) (fun _ _ _ h => h) (Or.inl ⟨by kernel_rfl, ?_⟩) hHeld ?_
  rotate_left
  · intro w' hSw; try dsimp only at hSw
    have d0 := (tbU.kept hSw).cell' (i := 0) rfl
    have d1 := (tbU.kept hSw).cell' (i := 1) rfl
    have d2 := (tbU.kept hSw).cell' (i := 2) rfl
    have d3 := (tbU.kept hSw).cell' (i := 3) rfl
    have u0 := (g3U.kept hSw).cell' (i := 0) rfl
    have z2 := (qbU.kept hSw).cell' (i := 2) rfl
    have m5 := (rbU.kept hSw).cell' (i := 5) rfl
    go_simp; try (with_reducible rfl)
  try simp only [Act.put, List.getElem_toArray, List.getElem_cons_succ, List.getElem_cons_zero, List.setIfInBounds_toArray, List.set_cons_zero, List.set_cons_succ]
  refine wpAnyH_take_at (i := 44) (v := ?_) (some 68) rfl (by kernel_rfl) (by kernel_rfl) (by kernel_rfl) (by kernel_rfl) (fun _ _ _ h => h) (Or.inl ⟨by kernel_rfl, ?_⟩) hHeld ?_
  rotate_left
  · intro w' hSw; try dsimp only at hSw
    have d0 := (tbU.kept hSw).cell' (i := 0) rfl
    have d1 := (tbU.kept hSw).cell' (i := 1) rfl
    have d2 := (tbU.kept hSw).cell' (i := 2) rfl
    have d3 := (tbU.kept hSw).cell' (i := 3) rfl
    have u0 := (g3U.kept hSw).cell' (i := 0) rfl
    have z2 := (qbU.kept hSw).cell' (i := 2) rfl
    have m5 := (rbU.kept hSw).cell' (i := 5) rfl
    go_simp; try (with_reducible rfl)
  try simp only [Act.put, List.getElem_toArray, List.getElem_cons_succ, List.getElem_cons_zero, List.setIfInBounds_toArray, List.set_cons_zero, List.set_cons_succ]
  refine wpAnyH_take_at (i := 45) (v := ?_) (some 69) rfl (by kernel_rfl) (by kernel_rfl) (by kernel_rfl) (by kernel_rfl) (fun _ _ _ h => h) (Or.inl ⟨by kernel_rfl, ?_⟩) hHeld ?_
  rotate_left
  · intro w' hSw; try dsimp only at hSw
    have d0 := (tbU.kept hSw).cell' (i := 0) rfl
    have d1 := (tbU.kept hSw).cell' (i := 1) rfl
    have d2 := (tbU.kept hSw).cell' (i := 2) rfl
    have d3 := (tbU.kept hSw).cell' (i := 3) rfl
    have u0 := (g3U.kept hSw).cell' (i := 0) rfl
    have z2 := (qbU.kept hSw).cell' (i := 2) rfl
    have m5 := (rbU.kept hSw).cell' (i := 5) rfl
    go_simp; try (with_reducible rfl)
  try simp only [Act.put, List.getElem_toArray, List.getElem_cons_succ, List.getElem_cons_zero, List.setIfInBounds_toArray, List.set_cons_zero, List.set_cons_succ]
  refine wpAnyH_take_at (i := 46) (v := ?_) (some 70) rfl (by kernel_rfl) (by kernel_rfl) (by kernel_rfl) (by kernel_rfl) (fun _ _ _ h => h) (Or.inl ⟨by kernel_rfl, ?_⟩) hHeld ?_
  rotate_left
  · intro w' hSw; try dsimp only at hSw
    have d0 := (tbU.kept hSw).cell' (i := 0) rfl
    have d1 := (tbU.kept hSw).cell' (i := 1) rfl
    have d2 := (tbU.kept hSw).cell' (i := 2) rfl
    have d3 := (tbU.kept hSw).cell' (i := 3) rfl
    have u0 := (g3U.kept hSw).cell' (i := 0) rfl
    have z2 := (qbU.kept hSw).cell' (i := 2) rfl
    have m5 := (rbU.kept hSw).cell' (i := 5) rfl
    go_simp; try (with_reducible rfl)
  try simp only [Act.put, List.getElem_toArray, List.getElem_cons_succ, List.getElem_cons_zero, List.setIfInBounds_toArray, List.set_cons_zero, List.set_cons_succ]
  refine wpAnyH_take_at (i := 47) (v := ?_) (some 71) rfl (by kernel_rfl) (by kernel_rfl) (by kernel_rfl) (by kernel_rfl) (fun _ _ _ h => h) (Or.inl ⟨by kernel_rfl, ?_⟩) hHeld ?_
  rotate_left
  · intro w' hSw; try dsimp only at hSw
    have d0 := (tbU.kept hSw).cell' (i := 0) rfl
    have d1 := (tbU.kept hSw).cell' (i := 1) rfl
    have d2 := (tbU.kept hSw).cell' (i := 2) rfl
    have d3 := (tbU.kept hSw).cell' (i := 3) rfl
    have u0 := (g3U.kept hSw).cell' (i := 0) rfl
    have z2 := (qbU.kept hSw).cell' (i := 2) rfl
    have m5 := (rbU.kept hSw).cell' (i := 5) rfl
    go_simp; try (with_reducible rfl)
  try simp only [Act.put, List.getElem_toArray, List.getElem_cons_succ, List.getElem_cons_zero, List.setIfInBounds_toArray, List.set_cons_zero, List.set_cons_succ]
  refine wpAnyH_ready (rs := [42]) (by kernel_rfl) (by simp) ?_
  refine AllReadyH.cons (o := { dst := some 66, op := Op.call { callee := Callee.value (Operand.func 52), args := #[Operand.tmp 64, Operand.tmp 65], argTypes := #[31, 3] }, type := 3, pos := "law.go:124", after := #[{ on := 40, ground := Ground.data }, { on := 41, ground := Ground.data }, { on := 36, ground := Ground.chain }, { on := 36, ground := Ground.guard }], guard := some (36, true) }) (by kernel_rfl) (fun K hK => ?_) AllReadyH.nil
  go_simp
  refine (cpinsI (TU.below hHeld).C i).mono ?_
  rintro e x4 ⟨rfl, hb4⟩
  have hH4 := bt hHeld hb4
  refine hK.out _ _ hH4 (fun hHeld => ?_)
  clear hK K
  try simp only [Act.put, List.getElem_toArray, List.getElem_cons_succ, List.getElem_cons_zero, List.setIfInBounds_toArray, List.set_cons_zero, List.set_cons_succ]
  refine wpAnyH_ready (rs := [48]) (by kernel_rfl) (by simp) ?_
  refine AllReadyH.cons (o := { dst := some 72, op := Op.call { callee := Callee.value (Operand.func 45), args := #[Operand.tmp 70, Operand.tmp 71], argTypes := #[34, 3] }, type := 3, pos := "law.go:124", after := #[{ on := 46, ground := Ground.data }, { on := 47, ground := Ground.data }, { on := 42, ground := Ground.chain }, { on := 36, ground := Ground.guard }], guard := some (36, true) }) (by kernel_rfl) (fun K hK => ?_) AllReadyH.nil
  go_simp
  refine (qpins_any (TU.below hHeld).Q i).mono ?_
  rintro e w' ⟨rfl, hw'⟩
  have hw2 := hw'.symm
  subst hw2
  clear hw'
  rw [T.P]
  generalize pinI c.P i = pz at *
  refine hK.out _ _ hHeld (fun hHeld => ?_)
  clear hK K
  try simp only [Act.put, List.getElem_toArray, List.getElem_cons_succ, List.getElem_cons_zero, List.setIfInBounds_toArray, List.set_cons_zero, List.set_cons_succ]
  refine wpAnyH_take_at (i := 49) (v := ?_) (some 73) rfl (by kernel_rfl) (by kernel_rfl) (by kernel_rfl) (by kernel_rfl) (fun _ _ _ h => h) (Or.inl ⟨by kernel_rfl, ?_⟩) hHeld ?_
  rotate_left
  · intro w' hSw; try dsimp only at hSw
    have d0 := (tbU.kept hSw).cell' (i := 0) rfl
    have d1 := (tbU.kept hSw).cell' (i := 1) rfl
    have d2 := (tbU.kept hSw).cell' (i := 2) rfl
    have d3 := (tbU.kept hSw).cell' (i := 3) rfl
    have u0 := (g3U.kept hSw).cell' (i := 0) rfl
    have z2 := (qbU.kept hSw).cell' (i := 2) rfl
    have m5 := (rbU.kept hSw).cell' (i := 5) rfl
    go_simp; try (with_reducible rfl)
  try simp only [Act.put, List.getElem_toArray, List.getElem_cons_succ, List.getElem_cons_zero, List.setIfInBounds_toArray, List.set_cons_zero, List.set_cons_succ]
  refine wpAnyH_take_at (i := 50) (v := ?_) (some 74) rfl (by kernel_rfl) (by kernel_rfl) (by kernel_rfl) (by kernel_rfl) (fun _ _ _ h => h) (Or.inl ⟨by kernel_rfl, ?_⟩) hHeld ?_
  rotate_left
  · intro w' hSw; try dsimp only at hSw
    have d0 := (tbU.kept hSw).cell' (i := 0) rfl
    have d1 := (tbU.kept hSw).cell' (i := 1) rfl
    have d2 := (tbU.kept hSw).cell' (i := 2) rfl
    have d3 := (tbU.kept hSw).cell' (i := 3) rfl
    have u0 := (g3U.kept hSw).cell' (i := 0) rfl
    have z2 := (qbU.kept hSw).cell' (i := 2) rfl
    have m5 := (rbU.kept hSw).cell' (i := 5) rfl
    go_simp; try (with_reducible rfl)
  try simp only [Act.put, List.getElem_toArray, List.getElem_cons_succ, List.getElem_cons_zero, List.setIfInBounds_toArray, List.set_cons_zero, List.set_cons_succ]
  refine wpAnyH_take_at (i := 51) (v := ?_) (some 75) rfl (by kernel_rfl) (by kernel_rfl) (by kernel_rfl) (by kernel_rfl) (fun _ _ _ h => h) (Or.inl ⟨by kernel_rfl, ?_⟩) hHeld ?_
  rotate_left
  · intro w' hSw; try dsimp only at hSw
    have d0 := (tbU.kept hSw).cell' (i := 0) rfl
    have d1 := (tbU.kept hSw).cell' (i := 1) rfl
    have d2 := (tbU.kept hSw).cell' (i := 2) rfl
    have d3 := (tbU.kept hSw).cell' (i := 3) rfl
    have u0 := (g3U.kept hSw).cell' (i := 0) rfl
    have z2 := (qbU.kept hSw).cell' (i := 2) rfl
    have m5 := (rbU.kept hSw).cell' (i := 5) rfl
    go_simp; try (with_reducible rfl)
  try simp only [Act.put, List.getElem_toArray, List.getElem_cons_succ, List.getElem_cons_zero, List.setIfInBounds_toArray, List.set_cons_zero, List.set_cons_succ]
  refine wpAnyH_take_at (i := 52) (v := ?_) (some 76) rfl (by kernel_rfl) (by kernel_rfl) (by kernel_rfl) (by kernel_rfl) (fun _ _ _ h => h) (Or.inl ⟨by kernel_rfl, ?_⟩) hHeld ?_
  rotate_left
  · intro w' hSw; try dsimp only at hSw
    have d0 := (tbU.kept hSw).cell' (i := 0) rfl
    have d1 := (tbU.kept hSw).cell' (i := 1) rfl
    have d2 := (tbU.kept hSw).cell' (i := 2) rfl
    have d3 := (tbU.kept hSw).cell' (i := 3) rfl
    have u0 := (g3U.kept hSw).cell' (i := 0) rfl
    have z2 := (qbU.kept hSw).cell' (i := 2) rfl
    have m5 := (rbU.kept hSw).cell' (i := 5) rfl
    go_simp; try (with_reducible rfl)
  try simp only [Act.put, List.getElem_toArray, List.getElem_cons_succ, List.getElem_cons_zero, List.setIfInBounds_toArray, List.set_cons_zero, List.set_cons_succ]
  refine wpAnyH_take_at (i := 53) (v := ?_) (some 77) rfl (by kernel_rfl) (by kernel_rfl) (by kernel_rfl) (by kernel_rfl) (fun _ _ _ h => h) (Or.inl ⟨by kernel_rfl, ?_⟩) hHeld ?_
  rotate_left
  · intro w' hSw; try dsimp only at hSw
    have d0 := (tbU.kept hSw).cell' (i := 0) rfl
    have d1 := (tbU.kept hSw).cell' (i := 1) rfl
    have d2 := (tbU.kept hSw).cell' (i := 2) rfl
    have d3 := (tbU.kept hSw).cell' (i := 3) rfl
    have u0 := (g3U.kept hSw).cell' (i := 0) rfl
    have z2 := (qbU.kept hSw).cell' (i := 2) rfl
    have m5 := (rbU.kept hSw).cell' (i := 5) rfl
    go_simp; try (with_reducible rfl)
  try simp only [Act.put, List.getElem_toArray, List.getElem_cons_succ, List.getElem_cons_zero, List.setIfInBounds_toArray, List.set_cons_zero, List.set_cons_succ]
  refine wpAnyH_take_at (i := 54) (v := ?_) (some 78) rfl (by kernel_rfl) (by kernel_rfl) (by kernel_rfl) (by kernel_rfl) (fun _ _ _ h => h) (Or.inl ⟨by kernel_rfl, ?_⟩) hHeld ?_
  rotate_left
  · intro w' hSw; try dsimp only at hSw
    have d0 := (tbU.kept hSw).cell' (i := 0) rfl
    have d1 := (tbU.kept hSw).cell' (i := 1) rfl
    have d2 := (tbU.kept hSw).cell' (i := 2) rfl
    have d3 := (tbU.kept hSw).cell' (i := 3) rfl
    have u0 := (g3U.kept hSw).cell' (i := 0) rfl
    have z2 := (qbU.kept hSw).cell' (i := 2) rfl
    have m5 := (rbU.kept hSw).cell' (i := 5) rfl
    go_simp; try (with_reducible rfl)
  try simp only [Act.put, List.getElem_toArray, List.getElem_cons_succ, List.getElem_cons_zero, List.setIfInBounds_toArray, List.set_cons_zero, List.set_cons_succ]
  refine wpAnyH_take_at (i := 55) (v := ?_) (some 79) rfl (by kernel_rfl) (by kernel_rfl) (by kernel_rfl) (by kernel_rfl) (fun _ _ _ h => h) (Or.inl ⟨by kernel_rfl, ?_⟩) hHeld ?_
  rotate_left
  · intro w' hSw; try dsimp only at hSw
    have d0 := (tbU.kept hSw).cell' (i := 0) rfl
    have d1 := (tbU.kept hSw).cell' (i := 1) rfl
    have d2 := (tbU.kept hSw).cell' (i := 2) rfl
    have d3 := (tbU.kept hSw).cell' (i := 3) rfl
    have u0 := (g3U.kept hSw).cell' (i := 0) rfl
    have z2 := (qbU.kept hSw).cell' (i := 2) rfl
    have m5 := (rbU.kept hSw).cell' (i := 5) rfl
    go_simp; try (with_reducible rfl)
  try simp only [Act.put, List.getElem_toArray, List.getElem_cons_succ, List.getElem_cons_zero, List.setIfInBounds_toArray, List.set_cons_zero, List.set_cons_succ]
  refine wpAnyH_take_at (i := 57) (v := ?_) (some 81) rfl (by kernel_rfl) (by kernel_rfl) (by kernel_rfl) (by kernel_rfl) (fun _ _ _ h => h) (Or.inl ⟨by kernel_rfl, ?_⟩) hHeld ?_
  rotate_left
  · intro w' hSw; try dsimp only at hSw
    have d0 := (tbU.kept hSw).cell' (i := 0) rfl
    have d1 := (tbU.kept hSw).cell' (i := 1) rfl
    have d2 := (tbU.kept hSw).cell' (i := 2) rfl
    have d3 := (tbU.kept hSw).cell' (i := 3) rfl
    have u0 := (g3U.kept hSw).cell' (i := 0) rfl
    have z2 := (qbU.kept hSw).cell' (i := 2) rfl
    have m5 := (rbU.kept hSw).cell' (i := 5) rfl
    go_simp; try (with_reducible rfl)
  try simp only [Act.put, List.getElem_toArray, List.getElem_cons_succ, List.getElem_cons_zero, List.setIfInBounds_toArray, List.set_cons_zero, List.set_cons_succ]
  refine wpAnyH_take_at (i := 58) (v := ?_) (some 82) rfl (by kernel_rfl) (by kernel_rfl) (by kernel_rfl) (by kernel_rfl) (fun _ _ _ h => h) (Or.inl ⟨by kernel_rfl, ?_⟩) hHeld ?_
  rotate_left
  · intro w' hSw; try dsimp only at hSw
    have d0 := (tbU.kept hSw).cell' (i := 0) rfl
    have d1 := (tbU.kept hSw).cell' (i := 1) rfl
    have d2 := (tbU.kept hSw).cell' (i := 2) rfl
    have d3 := (tbU.kept hSw).cell' (i := 3) rfl
    have u0 := (g3U.kept hSw).cell' (i := 0) rfl
    have z2 := (qbU.kept hSw).cell' (i := 2) rfl
    have m5 := (rbU.kept hSw).cell' (i := 5) rfl
    go_simp; try (with_reducible rfl)
  try simp only [Act.put, List.getElem_toArray, List.getElem_cons_succ, List.getElem_cons_zero, List.setIfInBounds_toArray, List.set_cons_zero, List.set_cons_succ]
  refine wpAnyH_take_at (i := 59) (v := ?_) (some 83) rfl (by kernel_rfl) (by kernel_rfl) (by kernel_rfl) (by kernel_rfl) (fun _ _ _ h => h) (Or.inl ⟨by kernel_rfl, ?_⟩) hHeld ?_
  rotate_left
  · intro w' hSw; try dsimp only at hSw
    have d0 := (tbU.kept hSw).cell' (i := 0) rfl
    have d1 := (tbU.kept hSw).cell' (i := 1) rfl
    have d2 := (tbU.kept hSw).cell' (i := 2) rfl
    have d3 := (tbU.kept hSw).cell' (i := 3) rfl
    have u0 := (g3U.kept hSw).cell' (i := 0) rfl
    have z2 := (qbU.kept hSw).cell' (i := 2) rfl
    have m5 := (rbU.kept hSw).cell' (i := 5) rfl
    go_simp; try (with_reducible rfl)
  try simp only [Act.put, List.getElem_toArray, List.getElem_cons_succ, List.getElem_cons_zero, List.setIfInBounds_toArray, List.set_cons_zero, List.set_cons_succ]
  refine wpAnyH_take_at (i := 60) (v := ?_) (some 84) rfl (by kernel_rfl) (by kernel_rfl) (by kernel_rfl) (by kernel_rfl) (fun _ _ _ h => h) (Or.inl ⟨by kernel_rfl, ?_⟩) hHeld ?_
  rotate_left
  · intro w' hSw; try dsimp only at hSw
    have d0 := (tbU.kept hSw).cell' (i := 0) rfl
    have d1 := (tbU.kept hSw).cell' (i := 1) rfl
    have d2 := (tbU.kept hSw).cell' (i := 2) rfl
    have d3 := (tbU.kept hSw).cell' (i := 3) rfl
    have u0 := (g3U.kept hSw).cell' (i := 0) rfl
    have z2 := (qbU.kept hSw).cell' (i := 2) rfl
    have m5 := (rbU.kept hSw).cell' (i := 5) rfl
    go_simp; try (with_reducible rfl)
  try simp only [Act.put, List.getElem_toArray, List.getElem_cons_succ, List.getElem_cons_zero, List.setIfInBounds_toArray, List.set_cons_zero, List.set_cons_succ]
  refine wpAnyH_take_at (i := 61) (v := ?_) (some 85) rfl (by kernel_rfl) (by kernel_rfl) (by kernel_rfl) (by kernel_rfl) (fun _ _ _ h => h) (Or.inl ⟨by kernel_rfl, ?_⟩) hHeld ?_
  rotate_left
  · intro w' hSw; try dsimp only at hSw
    have d0 := (tbU.kept hSw).cell' (i := 0) rfl
    have d1 := (tbU.kept hSw).cell' (i := 1) rfl
    have d2 := (tbU.kept hSw).cell' (i := 2) rfl
    have d3 := (tbU.kept hSw).cell' (i := 3) rfl
    have u0 := (g3U.kept hSw).cell' (i := 0) rfl
    have z2 := (qbU.kept hSw).cell' (i := 2) rfl
    have m5 := (rbU.kept hSw).cell' (i := 5) rfl
    go_simp; try (with_reducible rfl)
  try simp only [Act.put, List.getElem_toArray, List.getElem_cons_succ, List.getElem_cons_zero, List.setIfInBounds_toArray, List.set_cons_zero, List.set_cons_succ]
  refine wpAnyH_take_at (i := 62) (v := ?_) (some 86) rfl (by kernel_rfl) (by kernel_rfl) (by kernel_rfl) (by kernel_rfl) (fun _ _ _ h => h) (Or.inl ⟨by kernel_rfl, ?_⟩) hHeld ?_
  rotate_left
  · intro w' hSw; try dsimp only at hSw
    have d0 := (tbU.kept hSw).cell' (i := 0) rfl
    have d1 := (tbU.kept hSw).cell' (i := 1) rfl
    have d2 := (tbU.kept hSw).cell' (i := 2) rfl
    have d3 := (tbU.kept hSw).cell' (i := 3) rfl
    have u0 := (g3U.kept hSw).cell' (i := 0) rfl
    have z2 := (qbU.kept hSw).cell' (i := 2) rfl
    have m5 := (rbU.kept hSw).cell' (i := 5) rfl
    go_simp; try (with_reducible rfl)
  try simp only [Act.put, List.getElem_toArray, List.getElem_cons_succ, List.getElem_cons_zero, List.setIfInBounds_toArray, List.set_cons_zero, List.set_cons_succ]
  refine wpAnyH_take_at (i := 63) (v := ?_) (some 87) rfl (by kernel_rfl) (by kernel_rfl) (by kernel_rfl) (by kernel_rfl) (fun _ _ _ h => h) (Or.inl ⟨by kernel_rfl, ?_⟩) hHeld ?_
  rotate_left
  · intro w' hSw; try dsimp only at hSw
    have d0 := (tbU.kept hSw).cell' (i := 0) rfl
    have d1 := (tbU.kept hSw).cell' (i := 1) rfl
    have d2 := (tbU.kept hSw).cell' (i := 2) rfl
    have d3 := (tbU.kept hSw).cell' (i := 3) rfl
    have u0 := (g3U.kept hSw).cell' (i := 0) rfl
    have z2 := (qbU.kept hSw).cell' (i := 2) rfl
    have m5 := (rbU.kept hSw).cell' (i := 5) rfl
    go_simp; try (with_reducible rfl)
  try simp only [Act.put, List.getElem_toArray, List.getElem_cons_succ, List.getElem_cons_zero, List.setIfInBounds_toArray, List.set_cons_zero, List.set_cons_succ]
  refine wpAnyH_take_at (i := 64) (v := ?_) (some 88) rfl (by kernel_rfl) (by kernel_rfl) (by kernel_rfl) (by kernel_rfl) (fun _ _ _ h => h) (Or.inl ⟨by kernel_rfl, ?_⟩) hHeld ?_
  rotate_left
  · intro w' hSw; try dsimp only at hSw
    have d0 := (tbU.kept hSw).cell' (i := 0) rfl
    have d1 := (tbU.kept hSw).cell' (i := 1) rfl
    have d2 := (tbU.kept hSw).cell' (i := 2) rfl
    have d3 := (tbU.kept hSw).cell' (i := 3) rfl
    have u0 := (g3U.kept hSw).cell' (i := 0) rfl
    have z2 := (qbU.kept hSw).cell' (i := 2) rfl
    have m5 := (rbU.kept hSw).cell' (i := 5) rfl
    go_simp; try (with_reducible rfl)
  try simp only [Act.put, List.getElem_toArray, List.getElem_cons_succ, List.getElem_cons_zero, List.setIfInBounds_toArray, List.set_cons_zero, List.set_cons_succ]
  refine wpAnyH_ready (rs := [56]) (by kernel_rfl) (by simp) ?_
  refine AllReadyH.cons (o := { dst := some 80, op := Op.call { callee := Callee.value (Operand.func 22), args := #[Operand.tmp 79], argTypes := #[31] }, type := 3, pos := "law.go:124", after := #[{ on := 55, ground := Ground.data }, { on := 51, ground := Ground.chain }, { on := 51, ground := Ground.guard }], guard := some (51, true) }) (by kernel_rfl) (fun K hK => ?_) AllReadyH.nil
  go_simp
  refine (clen_any (TU.below hHeld).C).mono ?_
  rintro e w' ⟨rfl, hw'⟩
  have hw2 := hw'.symm
  subst hw2
  clear hw'
  rw [HPL.out]
  refine hK.out _ _ hHeld (fun hHeld => ?_)
  clear hK K
  try simp only [Act.put, List.getElem_toArray, List.getElem_cons_succ, List.getElem_cons_zero, List.setIfInBounds_toArray, List.set_cons_zero, List.set_cons_succ]
  refine wpAnyH_take_at (i := 65) (v := ?_) (some 89) rfl (by kernel_rfl) (by kernel_rfl) (by kernel_rfl) (by kernel_rfl) (fun _ _ _ h => h) (Or.inl ⟨by kernel_rfl, ?_⟩) hHeld ?_
  rotate_left
  · intro w' hSw; try dsimp only at hSw
    have d0 := (tbU.kept hSw).cell' (i := 0) rfl
    have d1 := (tbU.kept hSw).cell' (i := 1) rfl
    have d2 := (tbU.kept hSw).cell' (i := 2) rfl
    have d3 := (tbU.kept hSw).cell' (i := 3) rfl
    have u0 := (g3U.kept hSw).cell' (i := 0) rfl
    have z2 := (qbU.kept hSw).cell' (i := 2) rfl
    have m5 := (rbU.kept hSw).cell' (i := 5) rfl
    go_simp; try (with_reducible rfl)
  try simp only [Act.put, List.getElem_toArray, List.getElem_cons_succ, List.getElem_cons_zero, List.setIfInBounds_toArray, List.set_cons_zero, List.set_cons_succ]
  refine wpAnyH_take_at (i := 66) (v := ?_) (some 90) rfl (by kernel_rfl) (by kernel_rfl) (by kernel_rfl) (by kernel_rfl) (fun _ _ _ h => h) (Or.inl ⟨by kernel_rfl, ?_⟩) hHeld ?_
  rotate_left
  · intro w' hSw; try dsimp only at hSw
    have d0 := (tbU.kept hSw).cell' (i := 0) rfl
    have d1 := (tbU.kept hSw).cell' (i := 1) rfl
    have d2 := (tbU.kept hSw).cell' (i := 2) rfl
    have d3 := (tbU.kept hSw).cell' (i := 3) rfl
    have u0 := (g3U.kept hSw).cell' (i := 0) rfl
    have z2 := (qbU.kept hSw).cell' (i := 2) rfl
    have m5 := (rbU.kept hSw).cell' (i := 5) rfl
    go_simp; try (with_reducible rfl)
  try simp only [Act.put, List.getElem_toArray, List.getElem_cons_succ, List.getElem_cons_zero, List.setIfInBounds_toArray, List.set_cons_zero, List.set_cons_succ]
  refine wpAnyH_take_at (i := 67) (v := ?_) (some 91) rfl (by kernel_rfl) (by kernel_rfl) (by kernel_rfl) (by kernel_rfl) (fun _ _ _ h => h) (Or.inl ⟨by kernel_rfl, ?_⟩) hHeld ?_
  rotate_left
  · intro w' hSw; try dsimp only at hSw
    have d0 := (tbU.kept hSw).cell' (i := 0) rfl
    have d1 := (tbU.kept hSw).cell' (i := 1) rfl
    have d2 := (tbU.kept hSw).cell' (i := 2) rfl
    have d3 := (tbU.kept hSw).cell' (i := 3) rfl
    have u0 := (g3U.kept hSw).cell' (i := 0) rfl
    have z2 := (qbU.kept hSw).cell' (i := 2) rfl
    have m5 := (rbU.kept hSw).cell' (i := 5) rfl
    go_simp; try (with_reducible rfl)
  try simp only [Act.put, List.getElem_toArray, List.getElem_cons_succ, List.getElem_cons_zero, List.setIfInBounds_toArray, List.set_cons_zero, List.set_cons_succ]
  refine wpAnyH_take_at (i := 68) (v := ?_) (some 92) rfl (by kernel_rfl) (by kernel_rfl) (by kernel_rfl) (by kernel_rfl) (fun _ _ _ h => h) (Or.inl ⟨by kernel_rfl, ?_⟩) hHeld ?_
  rotate_left
  · intro w' hSw; try dsimp only at hSw
    have d0 := (tbU.kept hSw).cell' (i := 0) rfl
    have d1 := (tbU.kept hSw).cell' (i := 1) rfl
    have d2 := (tbU.kept hSw).cell' (i := 2) rfl
    have d3 := (tbU.kept hSw).cell' (i := 3) rfl
    have u0 := (g3U.kept hSw).cell' (i := 0) rfl
    have z2 := (qbU.kept hSw).cell' (i := 2) rfl
    have m5 := (rbU.kept hSw).cell' (i := 5) rfl
    go_simp; try (with_reducible rfl)
  try simp only [Act.put, List.getElem_toArray, List.getElem_cons_succ, List.getElem_cons_zero, List.setIfInBounds_toArray, List.set_cons_zero, List.set_cons_succ]
  refine wpAnyH_take_at (i := 69) (v := ?_) (some 93) rfl (by kernel_rfl) (by kernel_rfl) (by kernel_rfl) (by kernel_rfl) (fun _ _ _ h => h) (Or.inl ⟨by kernel_rfl, ?_⟩) hHeld ?_
  rotate_left
  · intro w' hSw; try dsimp only at hSw
    have d0 := (tbU.kept hSw).cell' (i := 0) rfl
    have d1 := (tbU.kept hSw).cell' (i := 1) rfl
    have d2 := (tbU.kept hSw).cell' (i := 2) rfl
    have d3 := (tbU.kept hSw).cell' (i := 3) rfl
    have u0 := (g3U.kept hSw).cell' (i := 0) rfl
    have z2 := (qbU.kept hSw).cell' (i := 2) rfl
    have m5 := (rbU.kept hSw).cell' (i := 5) rfl
    go_simp; try (with_reducible rfl)
  try simp only [Act.put, List.getElem_toArray, List.getElem_cons_succ, List.getElem_cons_zero, List.setIfInBounds_toArray, List.set_cons_zero, List.set_cons_succ]
  refine wpAnyH_take_at (i := 70) (v := ?_) (some 94) rfl (by kernel_rfl) (by kernel_rfl) (by kernel_rfl) (by kernel_rfl) (fun _ _ _ h => h) (Or.inl ⟨by kernel_rfl, ?_⟩) hHeld ?_
  rotate_left
  · intro w' hSw; try dsimp only at hSw
    have d0 := (tbU.kept hSw).cell' (i := 0) rfl
    have d1 := (tbU.kept hSw).cell' (i := 1) rfl
    have d2 := (tbU.kept hSw).cell' (i := 2) rfl
    have d3 := (tbU.kept hSw).cell' (i := 3) rfl
    have u0 := (g3U.kept hSw).cell' (i := 0) rfl
    have z2 := (qbU.kept hSw).cell' (i := 2) rfl
    have m5 := (rbU.kept hSw).cell' (i := 5) rfl
    go_simp; try (with_reducible rfl)
  try simp only [Act.put, List.getElem_toArray, List.getElem_cons_succ, List.getElem_cons_zero, List.setIfInBounds_toArray, List.set_cons_zero, List.set_cons_succ]
  refine wpAnyH_take_at (i := 71) (v := ?_) (some 95) rfl (by kernel_rfl) (by kernel_rfl) (by kernel_rfl) (by kernel_rfl) (fun _ _ _ h => h) (Or.inl ⟨by kernel_rfl, ?_⟩) hHeld ?_
  rotate_left
  · intro w' hSw; try dsimp only at hSw
    have d0 := (tbU.kept hSw).cell' (i := 0) rfl
    have d1 := (tbU.kept hSw).cell' (i := 1) rfl
    have d2 := (tbU.kept hSw).cell' (i := 2) rfl
    have d3 := (tbU.kept hSw).cell' (i := 3) rfl
    have u0 := (g3U.kept hSw).cell' (i := 0) rfl
    have z2 := (qbU.kept hSw).cell' (i := 2) rfl
    have m5 := (rbU.kept hSw).cell' (i := 5) rfl
    go_simp; try (with_reducible rfl)
  try simp only [Act.put, List.getElem_toArray, List.getElem_cons_succ, List.getElem_cons_zero, List.setIfInBounds_toArray, List.set_cons_zero, List.set_cons_succ]
  refine wpAnyH_take_at (i := 73) (v := ?_) (some 97) rfl (by kernel_rfl) (by kernel_rfl) (by kernel_rfl) (by kernel_rfl) (fun _ _ _ h => h) (Or.inl ⟨by kernel_rfl, ?_⟩) hHeld ?_
  rotate_left
  · intro w' hSw; try dsimp only at hSw
    have d0 := (tbU.kept hSw).cell' (i := 0) rfl
    have d1 := (tbU.kept hSw).cell' (i := 1) rfl
    have d2 := (tbU.kept hSw).cell' (i := 2) rfl
    have d3 := (tbU.kept hSw).cell' (i := 3) rfl
    have u0 := (g3U.kept hSw).cell' (i := 0) rfl
    have z2 := (qbU.kept hSw).cell' (i := 2) rfl
    have m5 := (rbU.kept hSw).cell' (i := 5) rfl
    go_simp; try (with_reducible rfl)
  try simp only [Act.put, List.getElem_toArray, List.getElem_cons_succ, List.getElem_cons_zero, List.setIfInBounds_toArray, List.set_cons_zero, List.set_cons_succ]
  refine wpAnyH_take_at (i := 74) (v := ?_) (some 98) rfl (by kernel_rfl) (by kernel_rfl) (by kernel_rfl) (by kernel_rfl) (fun _ _ _ h => h) (Or.inl ⟨by kernel_rfl, ?_⟩) hHeld ?_
  rotate_left
  · intro w' hSw; try dsimp only at hSw
    have d0 := (tbU.kept hSw).cell' (i := 0) rfl
    have d1 := (tbU.kept hSw).cell' (i := 1) rfl
    have d2 := (tbU.kept hSw).cell' (i := 2) rfl
    have d3 := (tbU.kept hSw).cell' (i := 3) rfl
    have u0 := (g3U.kept hSw).cell' (i := 0) rfl
    have z2 := (qbU.kept hSw).cell' (i := 2) rfl
    have m5 := (rbU.kept hSw).cell' (i := 5) rfl
    go_simp; try (with_reducible rfl)
  try simp only [Act.put, List.getElem_toArray, List.getElem_cons_succ, List.getElem_cons_zero, List.setIfInBounds_toArray, List.set_cons_zero, List.set_cons_succ]
  refine wpAnyH_take_at (i := 75) (v := ?_) (some 99) rfl (by kernel_rfl) (by kernel_rfl) (by kernel_rfl) (by kernel_rfl) (fun _ _ _ h => h) (Or.inl ⟨by kernel_rfl, ?_⟩) hHeld ?_
  rotate_left
  · intro w' hSw; try dsimp only at hSw
    have d0 := (tbU.kept hSw).cell' (i := 0) rfl
    have d1 := (tbU.kept hSw).cell' (i := 1) rfl
    have d2 := (tbU.kept hSw).cell' (i := 2) rfl
    have d3 := (tbU.kept hSw).cell' (i := 3) rfl
    have u0 := (g3U.kept hSw).cell' (i := 0) rfl
    have z2 := (qbU.kept hSw).cell' (i := 2) rfl
    have m5 := (rbU.kept hSw).cell' (i := 5) rfl
    go_simp; try (with_reducible rfl)
  try simp only [Act.put, List.getElem_toArray, List.getElem_cons_succ, List.getElem_cons_zero, List.setIfInBounds_toArray, List.set_cons_zero, List.set_cons_succ]
  refine wpAnyH_take_at (i := 76) (v := ?_) (some 100) rfl (by kernel_rfl) (by kernel_rfl) (by kernel_rfl) (by kernel_rfl) (fun _ _ _ h => h) (Or.inl ⟨by kernel_rfl, ?_⟩) hHeld ?_
  rotate_left
  · intro w' hSw; try dsimp only at hSw
    have d0 := (tbU.kept hSw).cell' (i := 0) rfl
    have d1 := (tbU.kept hSw).cell' (i := 1) rfl
    have d2 := (tbU.kept hSw).cell' (i := 2) rfl
    have d3 := (tbU.kept hSw).cell' (i := 3) rfl
    have u0 := (g3U.kept hSw).cell' (i := 0) rfl
    have z2 := (qbU.kept hSw).cell' (i := 2) rfl
    have m5 := (rbU.kept hSw).cell' (i := 5) rfl
    go_simp; try (with_reducible rfl)
  try simp only [Act.put, List.getElem_toArray, List.getElem_cons_succ, List.getElem_cons_zero, List.setIfInBounds_toArray, List.set_cons_zero, List.set_cons_succ]
  refine wpAnyH_take_at (i := 77) (v := ?_) (some 101) rfl (by kernel_rfl) (by kernel_rfl) (by kernel_rfl) (by kernel_rfl) (fun _ _ _ h => h) (Or.inl ⟨by kernel_rfl, ?_⟩) hHeld ?_
  rotate_left
  · intro w' hSw; try dsimp only at hSw
    have d0 := (tbU.kept hSw).cell' (i := 0) rfl
    have d1 := (tbU.kept hSw).cell' (i := 1) rfl
    have d2 := (tbU.kept hSw).cell' (i := 2) rfl
    have d3 := (tbU.kept hSw).cell' (i := 3) rfl
    have u0 := (g3U.kept hSw).cell' (i := 0) rfl
    have z2 := (qbU.kept hSw).cell' (i := 2) rfl
    have m5 := (rbU.kept hSw).cell' (i := 5) rfl
    go_simp; try (with_reducible rfl)
  try simp only [Act.put, List.getElem_toArray, List.getElem_cons_succ, List.getElem_cons_zero, List.setIfInBounds_toArray, List.set_cons_zero, List.set_cons_succ]
  refine wpAnyH_take_at (i := 78) (v := ?_) (some 102) rfl (by kernel_rfl) (by kernel_rfl) (by kernel_rfl) (by kernel_rfl) (fun _ _ _ h => h) (Or.inl ⟨by kernel_rfl, ?_⟩) hHeld ?_
  rotate_left
  · intro w' hSw; try dsimp only at hSw
    have d0 := (tbU.kept hSw).cell' (i := 0) rfl
    have d1 := (tbU.kept hSw).cell' (i := 1) rfl
    have d2 := (tbU.kept hSw).cell' (i := 2) rfl
    have d3 := (tbU.kept hSw).cell' (i := 3) rfl
    have u0 := (g3U.kept hSw).cell' (i := 0) rfl
    have z2 := (qbU.kept hSw).cell' (i := 2) rfl
    have m5 := (rbU.kept hSw).cell' (i := 5) rfl
    go_simp; try (with_reducible rfl)
  try simp only [Act.put, List.getElem_toArray, List.getElem_cons_succ, List.getElem_cons_zero, List.setIfInBounds_toArray, List.set_cons_zero, List.set_cons_succ]
  refine wpAnyH_take_at (i := 79) (v := ?_) (some 103) rfl (by kernel_rfl) (by kernel_rfl) (by kernel_rfl) (by kernel_rfl) (fun _ _ _ h => h) (Or.inl ⟨by kernel_rfl, ?_⟩) hHeld ?_
  rotate_left
  · intro w' hSw; try dsimp only at hSw
    have d0 := (tbU.kept hSw).cell' (i := 0) rfl
    have d1 := (tbU.kept hSw).cell' (i := 1) rfl
    have d2 := (tbU.kept hSw).cell' (i := 2) rfl
    have d3 := (tbU.kept hSw).cell' (i := 3) rfl
    have u0 := (g3U.kept hSw).cell' (i := 0) rfl
    have z2 := (qbU.kept hSw).cell' (i := 2) rfl
    have m5 := (rbU.kept hSw).cell' (i := 5) rfl
    go_simp; try (with_reducible rfl)
  try simp only [Act.put, List.getElem_toArray, List.getElem_cons_succ, List.getElem_cons_zero, List.setIfInBounds_toArray, List.set_cons_zero, List.set_cons_succ]
  refine wpAnyH_ready (rs := [72]) (by kernel_rfl) (by simp) ?_
  refine AllReadyH.cons (o := { dst := some 96, op := Op.call { callee := Callee.value (Operand.func 20), args := #[Operand.tmp 95], argTypes := #[24] }, type := 2, pos := "law.go:124", after := #[{ on := 71, ground := Ground.data }, { on := 67, ground := Ground.chain }, { on := 67, ground := Ground.guard }], guard := some (67, true) }) (by kernel_rfl) (fun K hK => ?_) AllReadyH.nil
  go_simp
  refine (writes_any (TU.below hHeld).C.base.disk).mono ?_
  rintro e w' ⟨rfl, hw'⟩
  have hw2 := hw'.symm
  subst hw2
  clear hw'
  rw [← HWR.out]
  refine hK.out _ _ hHeld (fun hHeld => ?_)
  clear hK K
  try simp only [Act.put, List.getElem_toArray, List.getElem_cons_succ, List.getElem_cons_zero, List.setIfInBounds_toArray, List.set_cons_zero, List.set_cons_succ]
  refine wpAnyH_take_at (i := 80) (v := ?_) (some 104) rfl (by kernel_rfl) (by kernel_rfl) (by kernel_rfl) (by kernel_rfl) (fun _ _ _ h => h) (Or.inl ⟨by kernel_rfl, ?_⟩) hHeld ?_
  rotate_left
  · intro w' hSw; try dsimp only at hSw
    have d0 := (tbU.kept hSw).cell' (i := 0) rfl
    have d1 := (tbU.kept hSw).cell' (i := 1) rfl
    have d2 := (tbU.kept hSw).cell' (i := 2) rfl
    have d3 := (tbU.kept hSw).cell' (i := 3) rfl
    have u0 := (g3U.kept hSw).cell' (i := 0) rfl
    have z2 := (qbU.kept hSw).cell' (i := 2) rfl
    have m5 := (rbU.kept hSw).cell' (i := 5) rfl
    go_simp; try (with_reducible rfl)
  try simp only [Act.put, List.getElem_toArray, List.getElem_cons_succ, List.getElem_cons_zero, List.setIfInBounds_toArray, List.set_cons_zero, List.set_cons_succ]
  refine wpAnyH_take_at (i := 81) (v := ?_) (some 105) rfl (by kernel_rfl) (by kernel_rfl) (by kernel_rfl) (by kernel_rfl) (fun _ _ _ h => h) (Or.inl ⟨by kernel_rfl, ?_⟩) hHeld ?_
  rotate_left
  · intro w' hSw; try dsimp only at hSw
    have d0 := (tbU.kept hSw).cell' (i := 0) rfl
    have d1 := (tbU.kept hSw).cell' (i := 1) rfl
    have d2 := (tbU.kept hSw).cell' (i := 2) rfl
    have d3 := (tbU.kept hSw).cell' (i := 3) rfl
    have u0 := (g3U.kept hSw).cell' (i := 0) rfl
    have z2 := (qbU.kept hSw).cell' (i := 2) rfl
    have m5 := (rbU.kept hSw).cell' (i := 5) rfl
    go_simp; try (with_reducible rfl)
  try simp only [Act.put, List.getElem_toArray, List.getElem_cons_succ, List.getElem_cons_zero, List.setIfInBounds_toArray, List.set_cons_zero, List.set_cons_succ]
  refine wpAnyH_take_at (i := 82) (v := ?_) (some 4) rfl (by kernel_rfl) (by kernel_rfl) (by kernel_rfl) (by kernel_rfl) (fun _ _ _ h => h) (Or.inl ⟨by kernel_rfl, ?_⟩) hHeld ?_
  rotate_left
  · intro w' hSw; try dsimp only at hSw
    have d0 := (tbU.kept hSw).cell' (i := 0) rfl
    have d1 := (tbU.kept hSw).cell' (i := 1) rfl
    have d2 := (tbU.kept hSw).cell' (i := 2) rfl
    have d3 := (tbU.kept hSw).cell' (i := 3) rfl
    have u0 := (g3U.kept hSw).cell' (i := 0) rfl
    have z2 := (qbU.kept hSw).cell' (i := 2) rfl
    have m5 := (rbU.kept hSw).cell' (i := 5) rfl
    go_simp; try (with_reducible rfl)
  try simp only [Act.put, List.getElem_toArray, List.getElem_cons_succ, List.getElem_cons_zero, List.setIfInBounds_toArray, List.set_cons_zero, List.set_cons_succ]
  refine wpAnyH_done (by kernel_rfl) ?_ _
  refine NoPanic.normal ?_
  go_wp2
  go_ret
  exact ⟨ret_bool (by simp), bt hbU hHeld⟩
end Go.Proofs.YtdmnddikcpfmfaaGreat
