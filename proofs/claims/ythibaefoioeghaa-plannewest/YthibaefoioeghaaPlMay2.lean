/-
  Which page is next; the victim.
-/
import Derived.Test.YthibaefoioeghaaPlMay1
namespace Go.Proofs.Ythibaefoioeghaa
open Go.RowKit
/-- Whether a page is the one that the sequential log goes on with. -/
def isNextP (T : Tab) (P k : Nat) : Bool := T.sp != -1 && (T.sl == ((k / P : Nat) : Int)) && (T.su == ((k % P : Nat) : Int))
set_option linter.unusedSimpArgs false in
set_option maxRecDepth 100000 in
set_option maxHeartbeats 4000000 in
theorem isNext_any (V : TabV) (T : Tab) (P k : Nat) (w : World) (hP : T.pages = P) (hP0 : 4 ≤ P ∧ P ≤ 32) (hkb : k ≤ 100000000) :
    Calls Try.prog 28 #[.agg (tabA V T), .int .i64 (k : Int)] w fun e w' => e = .returned (.bool (isNextP T P k)) ∧ Below w.heap.size w w' := by
  have hb0 := below_alloc w (.cells (tabA V T) 28)
  have b0 := Blk.new' w 28 (tabA V T)
  have hs := fun w => hasSeq_any V T w
  obtain ⟨q, hq⟩ : ∃ q, k / P = q := ⟨_, rfl⟩
  obtain ⟨r, hr⟩ : ∃ r, k % P = r := ⟨_, rfl⟩
  have hqk : q ≤ k := by rw [← hq]; exact Nat.div_le_self k P
  have hrk : r ≤ k := by rw [← hr]; exact Nat.mod_le k P
  have hPn : ¬ P = 0 := by omega
  have HN : Hid (isNextP T P k = (T.sp != -1 && (T.sl == (q : Int)) && (T.su == (r : Int)))) := by show _ = _; unfold isNextP; rw [hq, hr]
  have hq1 : IntKind.i64.wrap ((k : Int) / (P : Int)) = (q : Int) := by rw [← Int.natCast_ediv, hq]; exact wrapN q (by omega)
  have hq2 : wrap64 ((k : Int) / (P : Int)) = (q : Int) := (IntWalk.i64_left _).symm.trans hq1
  have hr0 : (k : Int).tmod (P : Int) = (r : Int) := by rw [Int.tmod_eq_emod_of_nonneg (by omega), ← Int.natCast_emod, hr]
  unfold tabA at hb0 b0 hs ⊢
  rw [hP] at hb0 b0 hs ⊢
  clear hq hr hP hP0
  generalize isNextP T P k = nx at *
  by_cases s1 : T.sp = -1
  · have m1 : (T.sp != -1) = false := by simp [s1]
    rw [m1] at hs HN
    clear s1 m1
    go_enter Try.func28, Try.ntmps28
    go_upto_region 1 with fail
    generalize hW : w.alloc (.cells #[.int .i64 (P : Int), .int .i64 T.logical, .int .i64 T.k, .slice V.pd V.nd V.cd, .slice V.ph V.nh V.ch, .int .i64 T.sp, .int .i64 T.sl, .int .i64 T.su, .slice V.pl V.nl V.cl] 28) = W at *
    clear hW
    refine wp_region_noPanic ?_
    refine wp_region_held_drew (S := fun W' => Below W.heap.size W W') (by kernel_rfl) ((Below.refl _ _).drew) (fun hHeld => ?_)
    refine wpAnyH_take (i := 0) (v := ?_) rfl (by kernel_rfl) (by kernel_rfl) (by kernel_rfl) (fun _ _ _ h => h) (Or.inl ⟨by rfl, ?_⟩) hHeld ?_
    rotate_left
    · intro w' hSw; try dsimp only at hSw
      have bw := b0.kept hSw
      have z0 := bw.cell' (i := 0) rfl; have z1 := bw.cell' (i := 1) rfl; have z2 := bw.cell' (i := 2) rfl; have z3 := bw.cell' (i := 3) rfl; have z4 := bw.cell' (i := 4) rfl; have z5 := bw.cell' (i := 5) rfl; have z6 := bw.cell' (i := 6) rfl; have z7 := bw.cell' (i := 7) rfl; have z8 := bw.cell' (i := 8) rfl
      go_simp; try (with_reducible rfl)
    try simp only [Act.put, List.getElem_toArray, List.getElem_cons_succ, List.getElem_cons_zero, List.setIfInBounds_toArray, List.set_cons_zero, List.set_cons_succ]
    refine wpAnyH_ready (rs := [1]) (by kernel_rfl) (by simp) ?_
    refine AllReadyH.cons rfl (fun K hK => ?_) AllReadyH.nil
    go_simp
    refine (hs _).mono ?_
    rintro e W1 ⟨rfl, k1⟩
    try go_wp2_with fail
    refine hK.out _ _ (bt hHeld k1) (fun hHeld => ?_)
    clear hK K
    try simp only [Act.put, List.getElem_toArray, List.getElem_cons_succ, List.getElem_cons_zero, List.setIfInBounds_toArray, List.set_cons_zero, List.set_cons_succ]
    refine wpAnyH_take (i := 2) (v := ?_) rfl (by kernel_rfl) (by kernel_rfl) (by kernel_rfl) (fun _ _ _ h => h) (Or.inl ⟨by rfl, ?_⟩) hHeld ?_
    rotate_left
    · intro w' hSw; try dsimp only at hSw
      have bw := b0.kept hSw
      have z0 := bw.cell' (i := 0) rfl; have z1 := bw.cell' (i := 1) rfl; have z2 := bw.cell' (i := 2) rfl; have z3 := bw.cell' (i := 3) rfl; have z4 := bw.cell' (i := 4) rfl; have z5 := bw.cell' (i := 5) rfl; have z6 := bw.cell' (i := 6) rfl; have z7 := bw.cell' (i := 7) rfl; have z8 := bw.cell' (i := 8) rfl
      go_simp; try (with_reducible rfl)
    try simp only [Act.put, List.getElem_toArray, List.getElem_cons_succ, List.getElem_cons_zero, List.setIfInBounds_toArray, List.set_cons_zero, List.set_cons_succ]
    refine wpAnyH_take (i := 3) (v := undef) rfl (by kernel_rfl) (by kernel_rfl) (by kernel_rfl) (fun _ _ _ h => h) (Or.inr ⟨by rfl, rfl⟩) hHeld ?_
    try simp only [Act.put, List.getElem_toArray, List.getElem_cons_succ, List.getElem_cons_zero, List.setIfInBounds_toArray, List.set_cons_zero, List.set_cons_succ]
    refine wpAnyH_take (i := 4) (v := undef) rfl (by kernel_rfl) (by kernel_rfl) (by kernel_rfl) (fun _ _ _ h => h) (Or.inr ⟨by rfl, rfl⟩) hHeld ?_
    try simp only [Act.put, List.getElem_toArray, List.getElem_cons_succ, List.getElem_cons_zero, List.setIfInBounds_toArray, List.set_cons_zero, List.set_cons_succ]
    refine wpAnyH_take (i := 5) (v := undef) rfl (by kernel_rfl) (by kernel_rfl) (by kernel_rfl) (fun _ _ _ h => h) (Or.inr ⟨by rfl, rfl⟩) hHeld ?_
    try simp only [Act.put, List.getElem_toArray, List.getElem_cons_succ, List.getElem_cons_zero, List.setIfInBounds_toArray, List.set_cons_zero, List.set_cons_succ]
    refine wpAnyH_take (i := 6) (v := undef) rfl (by kernel_rfl) (by kernel_rfl) (by kernel_rfl) (fun _ _ _ h => h) (Or.inr ⟨by rfl, rfl⟩) hHeld ?_
    try simp only [Act.put, List.getElem_toArray, List.getElem_cons_succ, List.getElem_cons_zero, List.setIfInBounds_toArray, List.set_cons_zero, List.set_cons_succ]
    refine wpAnyH_take (i := 7) (v := undef) rfl (by kernel_rfl) (by kernel_rfl) (by kernel_rfl) (fun _ _ _ h => h) (Or.inr ⟨by rfl, rfl⟩) hHeld ?_
    try simp only [Act.put, List.getElem_toArray, List.getElem_cons_succ, List.getElem_cons_zero, List.setIfInBounds_toArray, List.set_cons_zero, List.set_cons_succ]
    refine wpAnyH_take (i := 8) (v := undef) rfl (by kernel_rfl) (by kernel_rfl) (by kernel_rfl) (fun _ _ _ h => h) (Or.inr ⟨by rfl, rfl⟩) hHeld ?_
    try simp only [Act.put, List.getElem_toArray, List.getElem_cons_succ, List.getElem_cons_zero, List.setIfInBounds_toArray, List.set_cons_zero, List.set_cons_succ]
    refine wpAnyH_take (i := 9) (v := undef) rfl (by kernel_rfl) (by kernel_rfl) (by kernel_rfl) (fun _ _ _ h => h) (Or.inr ⟨by rfl, rfl⟩) hHeld ?_
    try simp only [Act.put, List.getElem_toArray, List.getElem_cons_succ, List.getElem_cons_zero, List.setIfInBounds_toArray, List.set_cons_zero, List.set_cons_succ]
    refine wpAnyH_take (i := 10) (v := undef) rfl (by kernel_rfl) (by kernel_rfl) (by kernel_rfl) (fun _ _ _ h => h) (Or.inr ⟨by rfl, rfl⟩) hHeld ?_
    try simp only [Act.put, List.getElem_toArray, List.getElem_cons_succ, List.getElem_cons_zero, List.setIfInBounds_toArray, List.set_cons_zero, List.set_cons_succ]
    refine wpAnyH_take (i := 11) (v := ?_) rfl (by kernel_rfl) (by kernel_rfl) (by kernel_rfl) (fun _ _ _ h => h) (Or.inl ⟨by rfl, ?_⟩) hHeld ?_
    rotate_left
    · intro w' hSw; try dsimp only at hSw
      have bw := b0.kept hSw
      have z0 := bw.cell' (i := 0) rfl; have z1 := bw.cell' (i := 1) rfl; have z2 := bw.cell' (i := 2) rfl; have z3 := bw.cell' (i := 3) rfl; have z4 := bw.cell' (i := 4) rfl; have z5 := bw.cell' (i := 5) rfl; have z6 := bw.cell' (i := 6) rfl; have z7 := bw.cell' (i := 7) rfl; have z8 := bw.cell' (i := 8) rfl
      go_simp; try (with_reducible rfl)
    try simp only [Act.put, List.getElem_toArray, List.getElem_cons_succ, List.getElem_cons_zero, List.setIfInBounds_toArray, List.set_cons_zero, List.set_cons_succ]
    refine wpAnyH_take (i := 12) (v := ?_) rfl (by kernel_rfl) (by kernel_rfl) (by kernel_rfl) (fun _ _ _ h => h) (Or.inl ⟨by rfl, ?_⟩) hHeld ?_
    rotate_left
    · intro w' hSw; try dsimp only at hSw
      have bw := b0.kept hSw
      have z0 := bw.cell' (i := 0) rfl; have z1 := bw.cell' (i := 1) rfl; have z2 := bw.cell' (i := 2) rfl; have z3 := bw.cell' (i := 3) rfl; have z4 := bw.cell' (i := 4) rfl; have z5 := bw.cell' (i := 5) rfl; have z6 := bw.cell' (i := 6) rfl; have z7 := bw.cell' (i := 7) rfl; have z8 := bw.cell' (i := 8) rfl
      go_simp; try (with_reducible rfl)
    try simp only [Act.put, List.getElem_toArray, List.getElem_cons_succ, List.getElem_cons_zero, List.setIfInBounds_toArray, List.set_cons_zero, List.set_cons_succ]
    refine wpAnyH_take (i := 13) (v := undef) rfl (by kernel_rfl) (by kernel_rfl) (by kernel_rfl) (fun _ _ _ h => h) (Or.inr ⟨by rfl, rfl⟩) hHeld ?_
    try simp only [Act.put, List.getElem_toArray, List.getElem_cons_succ, List.getElem_cons_zero, List.setIfInBounds_toArray, List.set_cons_zero, List.set_cons_succ]
    refine wpAnyH_take (i := 14) (v := undef) rfl (by kernel_rfl) (by kernel_rfl) (by kernel_rfl) (fun _ _ _ h => h) (Or.inr ⟨by rfl, rfl⟩) hHeld ?_
    try simp only [Act.put, List.getElem_toArray, List.getElem_cons_succ, List.getElem_cons_zero, List.setIfInBounds_toArray, List.set_cons_zero, List.set_cons_succ]
    refine wpAnyH_take (i := 15) (v := undef) rfl (by kernel_rfl) (by kernel_rfl) (by kernel_rfl) (fun _ _ _ h => h) (Or.inr ⟨by rfl, rfl⟩) hHeld ?_
    try simp only [Act.put, List.getElem_toArray, List.getElem_cons_succ, List.getElem_cons_zero, List.setIfInBounds_toArray, List.set_cons_zero, List.set_cons_succ]
    refine wpAnyH_take (i := 16) (v := undef) rfl (by kernel_rfl) (by kernel_rfl) (by kernel_rfl) (fun _ _ _ h => h) (Or.inr ⟨by rfl, rfl⟩) hHeld ?_
    try simp only [Act.put, List.getElem_toArray, List.getElem_cons_succ, List.getElem_cons_zero, List.setIfInBounds_toArray, List.set_cons_zero, List.set_cons_succ]
    refine wpAnyH_take (i := 17) (v := undef) rfl (by kernel_rfl) (by kernel_rfl) (by kernel_rfl) (fun _ _ _ h => h) (Or.inr ⟨by rfl, rfl⟩) hHeld ?_
    try simp only [Act.put, List.getElem_toArray, List.getElem_cons_succ, List.getElem_cons_zero, List.setIfInBounds_toArray, List.set_cons_zero, List.set_cons_succ]
    refine wpAnyH_take (i := 18) (v := undef) rfl (by kernel_rfl) (by kernel_rfl) (by kernel_rfl) (fun _ _ _ h => h) (Or.inr ⟨by rfl, rfl⟩) hHeld ?_
    try simp only [Act.put, List.getElem_toArray, List.getElem_cons_succ, List.getElem_cons_zero, List.setIfInBounds_toArray, List.set_cons_zero, List.set_cons_succ]
    refine wpAnyH_take (i := 19) (v := undef) rfl (by kernel_rfl) (by kernel_rfl) (by kernel_rfl) (fun _ _ _ h => h) (Or.inr ⟨by rfl, rfl⟩) hHeld ?_
    try simp only [Act.put, List.getElem_toArray, List.getElem_cons_succ, List.getElem_cons_zero, List.setIfInBounds_toArray, List.set_cons_zero, List.set_cons_succ]
    refine wpAnyH_take (i := 20) (v := undef) rfl (by kernel_rfl) (by kernel_rfl) (by kernel_rfl) (fun _ _ _ h => h) (Or.inr ⟨by rfl, rfl⟩) hHeld ?_
    try simp only [Act.put, List.getElem_toArray, List.getElem_cons_succ, List.getElem_cons_zero, List.setIfInBounds_toArray, List.set_cons_zero, List.set_cons_succ]
    refine wpAnyH_take (i := 21) (v := ?_) rfl (by kernel_rfl) (by kernel_rfl) (by kernel_rfl) (fun _ _ _ h => h) (Or.inl ⟨by rfl, ?_⟩) hHeld ?_
    rotate_left
    · intro w' hSw; try dsimp only at hSw
      have bw := b0.kept hSw
      have z0 := bw.cell' (i := 0) rfl; have z1 := bw.cell' (i := 1) rfl; have z2 := bw.cell' (i := 2) rfl; have z3 := bw.cell' (i := 3) rfl; have z4 := bw.cell' (i := 4) rfl; have z5 := bw.cell' (i := 5) rfl; have z6 := bw.cell' (i := 6) rfl; have z7 := bw.cell' (i := 7) rfl; have z8 := bw.cell' (i := 8) rfl
      go_simp; try (with_reducible rfl)
    try simp only [Act.put, List.getElem_toArray, List.getElem_cons_succ, List.getElem_cons_zero, List.setIfInBounds_toArray, List.set_cons_zero, List.set_cons_succ]
    refine wpAnyH_take (i := 22) (v := ?_) rfl (by kernel_rfl) (by kernel_rfl) (by kernel_rfl) (fun _ _ _ h => h) (Or.inl ⟨by rfl, ?_⟩) hHeld ?_
    rotate_left
    · intro w' hSw; try dsimp only at hSw
      have bw := b0.kept hSw
      have z0 := bw.cell' (i := 0) rfl; have z1 := bw.cell' (i := 1) rfl; have z2 := bw.cell' (i := 2) rfl; have z3 := bw.cell' (i := 3) rfl; have z4 := bw.cell' (i := 4) rfl; have z5 := bw.cell' (i := 5) rfl; have z6 := bw.cell' (i := 6) rfl; have z7 := bw.cell' (i := 7) rfl; have z8 := bw.cell' (i := 8) rfl
      go_simp; try (with_reducible rfl)
    try simp only [Act.put, List.getElem_toArray, List.getElem_cons_succ, List.getElem_cons_zero, List.setIfInBounds_toArray, List.set_cons_zero, List.set_cons_succ]
    refine wpAnyH_done (by kernel_rfl) ?_ _
    refine NoPanic.normal ?_
    go_wp2_with fail
    go_ret
    exact ⟨ret_bool HN.out.symm, bt hb0 hHeld⟩
  · have m1 : (T.sp != -1) = true := by simpa using s1
    rw [m1] at hs HN
    clear s1 m1
    by_cases s2 : T.sl = (q : Int)
    · have m2 : (T.sl == (q : Int)) = true := by simp [s2]
      rw [m2] at HN
      clear s2
      go_enter Try.func28, Try.ntmps28
      go_upto_region 1 with fail
      generalize hW : w.alloc (.cells #[.int .i64 (P : Int), .int .i64 T.logical, .int .i64 T.k, .slice V.pd V.nd V.cd, .slice V.ph V.nh V.ch, .int .i64 T.sp, .int .i64 T.sl, .int .i64 T.su, .slice V.pl V.nl V.cl] 28) = W at *
      clear hW
      refine wp_region_noPanic ?_
      refine wp_region_held_drew (S := fun W' => Below W.heap.size W W') (by kernel_rfl) ((Below.refl _ _).drew) (fun hHeld => ?_)
      refine wpAnyH_take (i := 0) (v := ?_) rfl (by kernel_rfl) (by kernel_rfl) (by kernel_rfl) (fun _ _ _ h => h) (Or.inl ⟨by rfl, ?_⟩) hHeld ?_
      rotate_left
      · intro w' hSw; try dsimp only at hSw
        have bw := b0.kept hSw
        have z0 := bw.cell' (i := 0) rfl; have z1 := bw.cell' (i := 1) rfl; have z2 := bw.cell' (i := 2) rfl; have z3 := bw.cell' (i := 3) rfl; have z4 := bw.cell' (i := 4) rfl; have z5 := bw.cell' (i := 5) rfl; have z6 := bw.cell' (i := 6) rfl; have z7 := bw.cell' (i := 7) rfl; have z8 := bw.cell' (i := 8) rfl
        go_simp; try (with_reducible rfl)
      try simp only [Act.put, List.getElem_toArray, List.getElem_cons_succ, List.getElem_cons_zero, List.setIfInBounds_toArray, List.set_cons_zero, List.set_cons_succ]
      refine wpAnyH_ready (rs := [1]) (by kernel_rfl) (by simp) ?_
      refine AllReadyH.cons rfl (fun K hK => ?_) AllReadyH.nil
      go_simp
      refine (hs _).mono ?_
      rintro e W1 ⟨rfl, k1⟩
      try go_wp2_with fail
      refine hK.out _ _ (bt hHeld k1) (fun hHeld => ?_)
      clear hK K
      try simp only [Act.put, List.getElem_toArray, List.getElem_cons_succ, List.getElem_cons_zero, List.setIfInBounds_toArray, List.set_cons_zero, List.set_cons_succ]
      refine wpAnyH_take (i := 2) (v := ?_) rfl (by kernel_rfl) (by kernel_rfl) (by kernel_rfl) (fun _ _ _ h => h) (Or.inl ⟨by rfl, ?_⟩) hHeld ?_
      rotate_left
      · intro w' hSw; try dsimp only at hSw
        have bw := b0.kept hSw
        have z0 := bw.cell' (i := 0) rfl; have z1 := bw.cell' (i := 1) rfl; have z2 := bw.cell' (i := 2) rfl; have z3 := bw.cell' (i := 3) rfl; have z4 := bw.cell' (i := 4) rfl; have z5 := bw.cell' (i := 5) rfl; have z6 := bw.cell' (i := 6) rfl; have z7 := bw.cell' (i := 7) rfl; have z8 := bw.cell' (i := 8) rfl
        go_simp; try (with_reducible rfl)
      try simp only [Act.put, List.getElem_toArray, List.getElem_cons_succ, List.getElem_cons_zero, List.setIfInBounds_toArray, List.set_cons_zero, List.set_cons_succ]
      refine wpAnyH_take (i := 3) (v := ?_) rfl (by kernel_rfl) (by kernel_rfl) (by kernel_rfl) (fun _ _ _ h => h) (Or.inl ⟨by rfl, ?_⟩) hHeld ?_
      rotate_left
      · intro w' hSw; try dsimp only at hSw
        have bw := b0.kept hSw
        have z0 := bw.cell' (i := 0) rfl; have z1 := bw.cell' (i := 1) rfl; have z2 := bw.cell' (i := 2) rfl; have z3 := bw.cell' (i := 3) rfl; have z4 := bw.cell' (i := 4) rfl; have z5 := bw.cell' (i := 5) rfl; have z6 := bw.cell' (i := 6) rfl; have z7 := bw.cell' (i := 7) rfl; have z8 := bw.cell' (i := 8) rfl
        go_simp; try (with_reducible rfl)
      try simp only [Act.put, List.getElem_toArray, List.getElem_cons_succ, List.getElem_cons_zero, List.setIfInBounds_toArray, List.set_cons_zero, List.set_cons_succ]
      refine wpAnyH_take (i := 4) (v := ?_) rfl (by kernel_rfl) (by kernel_rfl) (by kernel_rfl) (fun _ _ _ h => h) (Or.inl ⟨by rfl, ?_⟩) hHeld ?_
      rotate_left
      · intro w' hSw; try dsimp only at hSw
        have bw := b0.kept hSw
        have z0 := bw.cell' (i := 0) rfl; have z1 := bw.cell' (i := 1) rfl; have z2 := bw.cell' (i := 2) rfl; have z3 := bw.cell' (i := 3) rfl; have z4 := bw.cell' (i := 4) rfl; have z5 := bw.cell' (i := 5) rfl; have z6 := bw.cell' (i := 6) rfl; have z7 := bw.cell' (i := 7) rfl; have z8 := bw.cell' (i := 8) rfl
        go_simp; try (with_reducible rfl)
      try simp only [Act.put, List.getElem_toArray, List.getElem_cons_succ, List.getElem_cons_zero, List.setIfInBounds_toArray, List.set_cons_zero, List.set_cons_succ]
      refine wpAnyH_take (i := 5) (v := ?_) rfl (by kernel_rfl) (by kernel_rfl) (by kernel_rfl) (fun _ _ _ h => h) (Or.inl ⟨by rfl, ?_⟩) hHeld ?_
      rotate_left
      · intro w' hSw; try dsimp only at hSw
        have bw := b0.kept hSw
        have z0 := bw.cell' (i := 0) rfl; have z1 := bw.cell' (i := 1) rfl; have z2 := bw.cell' (i := 2) rfl; have z3 := bw.cell' (i := 3) rfl; have z4 := bw.cell' (i := 4) rfl; have z5 := bw.cell' (i := 5) rfl; have z6 := bw.cell' (i := 6) rfl; have z7 := bw.cell' (i := 7) rfl; have z8 := bw.cell' (i := 8) rfl
        go_simp; try (with_reducible rfl)
      try simp only [Act.put, List.getElem_toArray, List.getElem_cons_succ, List.getElem_cons_zero, List.setIfInBounds_toArray, List.set_cons_zero, List.set_cons_succ]
      refine wpAnyH_take (i := 6) (v := ?_) rfl (by kernel_rfl) (by kernel_rfl) (by kernel_rfl) (fun _ _ _ h => h) (Or.inl ⟨by rfl, ?_⟩) hHeld ?_
      rotate_left
      · intro w' hSw; try dsimp only at hSw
        have bw := b0.kept hSw
        have z0 := bw.cell' (i := 0) rfl; have z1 := bw.cell' (i := 1) rfl; have z2 := bw.cell' (i := 2) rfl; have z3 := bw.cell' (i := 3) rfl; have z4 := bw.cell' (i := 4) rfl; have z5 := bw.cell' (i := 5) rfl; have z6 := bw.cell' (i := 6) rfl; have z7 := bw.cell' (i := 7) rfl; have z8 := bw.cell' (i := 8) rfl
        go_simp; try (with_reducible rfl)
      try simp only [Act.put, List.getElem_toArray, List.getElem_cons_succ, List.getElem_cons_zero, List.setIfInBounds_toArray, List.set_cons_zero, List.set_cons_succ]
      refine wpAnyH_take (i := 7) (v := ?_) rfl (by kernel_rfl) (by kernel_rfl) (by kernel_rfl) (fun _ _ _ h => h) (Or.inl ⟨by rfl, ?_⟩) hHeld ?_
      rotate_left
      · intro w' hSw; try dsimp only at hSw
        have bw := b0.kept hSw
        have z0 := bw.cell' (i := 0) rfl; have z1 := bw.cell' (i := 1) rfl; have z2 := bw.cell' (i := 2) rfl; have z3 := bw.cell' (i := 3) rfl; have z4 := bw.cell' (i := 4) rfl; have z5 := bw.cell' (i := 5) rfl; have z6 := bw.cell' (i := 6) rfl; have z7 := bw.cell' (i := 7) rfl; have z8 := bw.cell' (i := 8) rfl
        go_simp; try (with_reducible rfl)
      try simp only [Act.put, List.getElem_toArray, List.getElem_cons_succ, List.getElem_cons_zero, List.setIfInBounds_toArray, List.set_cons_zero, List.set_cons_succ]
      refine wpAnyH_take (i := 8) (v := ?_) rfl (by kernel_rfl) (by kernel_rfl) (by kernel_rfl) (fun _ _ _ h => h) (Or.inl ⟨by rfl, ?_⟩) hHeld ?_
      rotate_left
      · intro w' hSw; try dsimp only at hSw
        have bw := b0.kept hSw
        have z0 := bw.cell' (i := 0) rfl; have z1 := bw.cell' (i := 1) rfl; have z2 := bw.cell' (i := 2) rfl; have z3 := bw.cell' (i := 3) rfl; have z4 := bw.cell' (i := 4) rfl; have z5 := bw.cell' (i := 5) rfl; have z6 := bw.cell' (i := 6) rfl; have z7 := bw.cell' (i := 7) rfl; have z8 := bw.cell' (i := 8) rfl
        go_simp; try (with_reducible rfl)
      try simp only [Act.put, List.getElem_toArray, List.getElem_cons_succ, List.getElem_cons_zero, List.setIfInBounds_toArray, List.set_cons_zero, List.set_cons_succ]
      refine wpAnyH_take (i := 9) (v := ?_) rfl (by kernel_rfl) (by kernel_rfl) (by kernel_rfl) (fun _ _ _ h => h) (Or.inl ⟨by rfl, ?_⟩) hHeld ?_
      rotate_left
      · intro w' hSw; try dsimp only at hSw
        have bw := b0.kept hSw
        have z0 := bw.cell' (i := 0) rfl; have z1 := bw.cell' (i := 1) rfl; have z2 := bw.cell' (i := 2) rfl; have z3 := bw.cell' (i := 3) rfl; have z4 := bw.cell' (i := 4) rfl; have z5 := bw.cell' (i := 5) rfl; have z6 := bw.cell' (i := 6) rfl; have z7 := bw.cell' (i := 7) rfl; have z8 := bw.cell' (i := 8) rfl
        go_simp; try (with_reducible rfl)
      try simp only [Act.put, List.getElem_toArray, List.getElem_cons_succ, List.getElem_cons_zero, List.setIfInBounds_toArray, List.set_cons_zero, List.set_cons_succ]
      refine wpAnyH_take (i := 10) (v := ?_) rfl (by kernel_rfl) (by kernel_rfl) (by kernel_rfl) (fun _ _ _ h => h) (Or.inl ⟨by rfl, ?_⟩) hHeld ?_
      rotate_left
      · intro w' hSw; try dsimp only at hSw
        have bw := b0.kept hSw
        have z0 := bw.cell' (i := 0) rfl; have z1 := bw.cell' (i := 1) rfl; have z2 := bw.cell' (i := 2) rfl; have z3 := bw.cell' (i := 3) rfl; have z4 := bw.cell' (i := 4) rfl; have z5 := bw.cell' (i := 5) rfl; have z6 := bw.cell' (i := 6) rfl; have z7 := bw.cell' (i := 7) rfl; have z8 := bw.cell' (i := 8) rfl
        go_simp; try (with_reducible rfl)
      try simp only [Act.put, List.getElem_toArray, List.getElem_cons_succ, List.getElem_cons_zero, List.setIfInBounds_toArray, List.set_cons_zero, List.set_cons_succ]
      refine wpAnyH_take (i := 11) (v := ?_) rfl (by kernel_rfl) (by kernel_rfl) (by kernel_rfl) (fun _ _ _ h => h) (Or.inl ⟨by rfl, ?_⟩) hHeld ?_
      rotate_left
      · intro w' hSw; try dsimp only at hSw
        have bw := b0.kept hSw
        have z0 := bw.cell' (i := 0) rfl; have z1 := bw.cell' (i := 1) rfl; have z2 := bw.cell' (i := 2) rfl; have z3 := bw.cell' (i := 3) rfl; have z4 := bw.cell' (i := 4) rfl; have z5 := bw.cell' (i := 5) rfl; have z6 := bw.cell' (i := 6) rfl; have z7 := bw.cell' (i := 7) rfl; have z8 := bw.cell' (i := 8) rfl
        go_simp; try (with_reducible rfl)
      try simp only [Act.put, List.getElem_toArray, List.getElem_cons_succ, List.getElem_cons_zero, List.setIfInBounds_toArray, List.set_cons_zero, List.set_cons_succ]
      refine wpAnyH_take (i := 12) (v := ?_) rfl (by kernel_rfl) (by kernel_rfl) (by kernel_rfl) (fun _ _ _ h => h) (Or.inl ⟨by rfl, ?_⟩) hHeld ?_
      rotate_left
      · intro w' hSw; try dsimp only at hSw
        have bw := b0.kept hSw
        have z0 := bw.cell' (i := 0) rfl; have z1 := bw.cell' (i := 1) rfl; have z2 := bw.cell' (i := 2) rfl; have z3 := bw.cell' (i := 3) rfl; have z4 := bw.cell' (i := 4) rfl; have z5 := bw.cell' (i := 5) rfl; have z6 := bw.cell' (i := 6) rfl; have z7 := bw.cell' (i := 7) rfl; have z8 := bw.cell' (i := 8) rfl
        go_simp; try (with_reducible rfl)
      try simp only [Act.put, List.getElem_toArray, List.getElem_cons_succ, List.getElem_cons_zero, List.setIfInBounds_toArray, List.set_cons_zero, List.set_cons_succ]
      refine wpAnyH_take (i := 13) (v := ?_) rfl (by kernel_rfl) (by kernel_rfl) (by kernel_rfl) (fun _ _ _ h => h) (Or.inl ⟨by rfl, ?_⟩) hHeld ?_
      rotate_left
      · intro w' hSw; try dsimp only at hSw
        have bw := b0.kept hSw
        have z0 := bw.cell' (i := 0) rfl; have z1 := bw.cell' (i := 1) rfl; have z2 := bw.cell' (i := 2) rfl; have z3 := bw.cell' (i := 3) rfl; have z4 := bw.cell' (i := 4) rfl; have z5 := bw.cell' (i := 5) rfl; have z6 := bw.cell' (i := 6) rfl; have z7 := bw.cell' (i := 7) rfl; have z8 := bw.cell' (i := 8) rfl
        go_simp; try (with_reducible rfl)
      try simp only [Act.put, List.getElem_toArray, List.getElem_cons_succ, List.getElem_cons_zero, List.setIfInBounds_toArray, List.set_cons_zero, List.set_cons_succ]
      refine wpAnyH_take (i := 14) (v := ?_) rfl (by kernel_rfl) (by kernel_rfl) (by kernel_rfl) (fun _ _ _ h => h) (Or.inl ⟨by rfl, ?_⟩) hHeld ?_
      rotate_left
      · intro w' hSw; try dsimp only at hSw
        have bw := b0.kept hSw
        have z0 := bw.cell' (i := 0) rfl; have z1 := bw.cell' (i := 1) rfl; have z2 := bw.cell' (i := 2) rfl; have z3 := bw.cell' (i := 3) rfl; have z4 := bw.cell' (i := 4) rfl; have z5 := bw.cell' (i := 5) rfl; have z6 := bw.cell' (i := 6) rfl; have z7 := bw.cell' (i := 7) rfl; have z8 := bw.cell' (i := 8) rfl
        go_simp; try (with_reducible rfl)
      try simp only [Act.put, List.getElem_toArray, List.getElem_cons_succ, List.getElem_cons_zero, List.setIfInBounds_toArray, List.set_cons_zero, List.set_cons_succ]
      refine wpAnyH_take (i := 15) (v := ?_) rfl (by kernel_rfl) (by kernel_rfl) (by kernel_rfl) (fun _ _ _ h => h) (Or.inl ⟨by rfl, ?_⟩) hHeld ?_
      rotate_left
      · intro w' hSw; try dsimp only at hSw
        have bw := b0.kept hSw
        have z0 := bw.cell' (i := 0) rfl; have z1 := bw.cell' (i := 1) rfl; have z2 := bw.cell' (i := 2) rfl; have z3 := bw.cell' (i := 3) rfl; have z4 := bw.cell' (i := 4) rfl; have z5 := bw.cell' (i := 5) rfl; have z6 := bw.cell' (i := 6) rfl; have z7 := bw.cell' (i := 7) rfl; have z8 := bw.cell' (i := 8) rfl
        go_simp; try (with_reducible rfl)
      try simp only [Act.put, List.getElem_toArray, List.getElem_cons_succ, List.getElem_cons_zero, List.setIfInBounds_toArray, List.set_cons_zero, List.set_cons_succ]
      refine wpAnyH_take (i := 16) (v := ?_) rfl (by kernel_rfl) (by kernel_rfl) (by kernel_rfl) (fun _ _ _ h => h) (Or.inl ⟨by rfl, ?_⟩) hHeld ?_
      rotate_left
      · intro w' hSw; try dsimp only at hSw
        have bw := b0.kept hSw
        have z0 := bw.cell' (i := 0) rfl; have z1 := bw.cell' (i := 1) rfl; have z2 := bw.cell' (i := 2) rfl; have z3 := bw.cell' (i := 3) rfl; have z4 := bw.cell' (i := 4) rfl; have z5 := bw.cell' (i := 5) rfl; have z6 := bw.cell' (i := 6) rfl; have z7 := bw.cell' (i := 7) rfl; have z8 := bw.cell' (i := 8) rfl
        go_simp; try (with_reducible rfl)
      try simp only [Act.put, List.getElem_toArray, List.getElem_cons_succ, List.getElem_cons_zero, List.setIfInBounds_toArray, List.set_cons_zero, List.set_cons_succ]
      refine wpAnyH_take (i := 17) (v := ?_) rfl (by kernel_rfl) (by kernel_rfl) (by kernel_rfl) (fun _ _ _ h => h) (Or.inl ⟨by rfl, ?_⟩) hHeld ?_
      rotate_left
      · intro w' hSw; try dsimp only at hSw
        have bw := b0.kept hSw
        have z0 := bw.cell' (i := 0) rfl; have z1 := bw.cell' (i := 1) rfl; have z2 := bw.cell' (i := 2) rfl; have z3 := bw.cell' (i := 3) rfl; have z4 := bw.cell' (i := 4) rfl; have z5 := bw.cell' (i := 5) rfl; have z6 := bw.cell' (i := 6) rfl; have z7 := bw.cell' (i := 7) rfl; have z8 := bw.cell' (i := 8) rfl
        go_simp; try (with_reducible rfl)
      try simp only [Act.put, List.getElem_toArray, List.getElem_cons_succ, List.getElem_cons_zero, List.setIfInBounds_toArray, List.set_cons_zero, List.set_cons_succ]
      refine wpAnyH_take (i := 18) (v := ?_) rfl (by kernel_rfl) (by kernel_rfl) (by kernel_rfl) (fun _ _ _ h => h) (Or.inl ⟨by rfl, ?_⟩) hHeld ?_
      rotate_left
      · intro w' hSw; try dsimp only at hSw
        have bw := b0.kept hSw
        have z0 := bw.cell' (i := 0) rfl; have z1 := bw.cell' (i := 1) rfl; have z2 := bw.cell' (i := 2) rfl; have z3 := bw.cell' (i := 3) rfl; have z4 := bw.cell' (i := 4) rfl; have z5 := bw.cell' (i := 5) rfl; have z6 := bw.cell' (i := 6) rfl; have z7 := bw.cell' (i := 7) rfl; have z8 := bw.cell' (i := 8) rfl
        go_simp; try (with_reducible rfl)
      try simp only [Act.put, List.getElem_toArray, List.getElem_cons_succ, List.getElem_cons_zero, List.setIfInBounds_toArray, List.set_cons_zero, List.set_cons_succ]
      refine wpAnyH_take (i := 19) (v := ?_) rfl (by kernel_rfl) (by kernel_rfl) (by kernel_rfl) (fun _ _ _ h => h) (Or.inl ⟨by rfl, ?_⟩) hHeld ?_
      rotate_left
      · intro w' hSw; try dsimp only at hSw
        have bw := b0.kept hSw
        have z0 := bw.cell' (i := 0) rfl; have z1 := bw.cell' (i := 1) rfl; have z2 := bw.cell' (i := 2) rfl; have z3 := bw.cell' (i := 3) rfl; have z4 := bw.cell' (i := 4) rfl; have z5 := bw.cell' (i := 5) rfl; have z6 := bw.cell' (i := 6) rfl; have z7 := bw.cell' (i := 7) rfl; have z8 := bw.cell' (i := 8) rfl
        go_simp; try (with_reducible rfl)
      try simp only [Act.put, List.getElem_toArray, List.getElem_cons_succ, List.getElem_cons_zero, List.setIfInBounds_toArray, List.set_cons_zero, List.set_cons_succ]
      refine wpAnyH_take (i := 20) (v := ?_) rfl (by kernel_rfl) (by kernel_rfl) (by kernel_rfl) (fun _ _ _ h => h) (Or.inl ⟨by rfl, ?_⟩) hHeld ?_
      rotate_left
      · intro w' hSw; try dsimp only at hSw
        have bw := b0.kept hSw
        have z0 := bw.cell' (i := 0) rfl; have z1 := bw.cell' (i := 1) rfl; have z2 := bw.cell' (i := 2) rfl; have z3 := bw.cell' (i := 3) rfl; have z4 := bw.cell' (i := 4) rfl; have z5 := bw.cell' (i := 5) rfl; have z6 := bw.cell' (i := 6) rfl; have z7 := bw.cell' (i := 7) rfl; have z8 := bw.cell' (i := 8) rfl
        go_simp; try (with_reducible rfl)
      try simp only [Act.put, List.getElem_toArray, List.getElem_cons_succ, List.getElem_cons_zero, List.setIfInBounds_toArray, List.set_cons_zero, List.set_cons_succ]
      refine wpAnyH_take (i := 21) (v := ?_) rfl (by kernel_rfl) (by kernel_rfl) (by kernel_rfl) (fun _ _ _ h => h) (Or.inl ⟨by rfl, ?_⟩) hHeld ?_
      rotate_left
      · intro w' hSw; try dsimp only at hSw
        have bw := b0.kept hSw
        have z0 := bw.cell' (i := 0) rfl; have z1 := bw.cell' (i := 1) rfl; have z2 := bw.cell' (i := 2) rfl; have z3 := bw.cell' (i := 3) rfl; have z4 := bw.cell' (i := 4) rfl; have z5 := bw.cell' (i := 5) rfl; have z6 := bw.cell' (i := 6) rfl; have z7 := bw.cell' (i := 7) rfl; have z8 := bw.cell' (i := 8) rfl
        go_simp; try (with_reducible rfl)
      try simp only [Act.put, List.getElem_toArray, List.getElem_cons_succ, List.getElem_cons_zero, List.setIfInBounds_toArray, List.set_cons_zero, List.set_cons_succ]
      refine wpAnyH_take (i := 22) (v := ?_) rfl (by kernel_rfl) (by kernel_rfl) (by kernel_rfl) (fun _ _ _ h => h) (Or.inl ⟨by rfl, ?_⟩) hHeld ?_
      rotate_left
      · intro w' hSw; try dsimp only at hSw
        have bw := b0.kept hSw
        have z0 := bw.cell' (i := 0) rfl; have z1 := bw.cell' (i := 1) rfl; have z2 := bw.cell' (i := 2) rfl; have z3 := bw.cell' (i := 3) rfl; have z4 := bw.cell' (i := 4) rfl; have z5 := bw.cell' (i := 5) rfl; have z6 := bw.cell' (i := 6) rfl; have z7 := bw.cell' (i := 7) rfl; have z8 := bw.cell' (i := 8) rfl
        go_simp; try (with_reducible rfl)
      try simp only [Act.put, List.getElem_toArray, List.getElem_cons_succ, List.getElem_cons_zero, List.setIfInBounds_toArray, List.set_cons_zero, List.set_cons_succ]
      refine wpAnyH_done (by kernel_rfl) ?_ _
      refine NoPanic.normal ?_
      go_wp2_with fail
      go_ret
      exact ⟨ret_bool HN.out.symm, bt hb0 hHeld⟩
    · have m2 : (T.sl == (q : Int)) = false := by simpa using s2
      rw [m2] at HN
      clear s2
      go_enter Try.func28, Try.ntmps28
      go_upto_region 1 with fail
      generalize hW : w.alloc (.cells #[.int .i64 (P : Int), .int .i64 T.logical, .int .i64 T.k, .slice V.pd V.nd V.cd, .slice V.ph V.nh V.ch, .int .i64 T.sp, .int .i64 T.sl, .int .i64 T.su, .slice V.pl V.nl V.cl] 28) = W at *
      clear hW
      refine wp_region_noPanic ?_
      refine wp_region_held_drew (S := fun W' => Below W.heap.size W W') (by kernel_rfl) ((Below.refl _ _).drew) (fun hHeld => ?_)
      refine wpAnyH_take (i := 0) (v := ?_) rfl (by kernel_rfl) (by kernel_rfl) (by kernel_rfl) (fun _ _ _ h => h) (Or.inl ⟨by rfl, ?_⟩) hHeld ?_
      rotate_left
      · intro w' hSw; try dsimp only at hSw
        have bw := b0.kept hSw
        have z0 := bw.cell' (i := 0) rfl; have z1 := bw.cell' (i := 1) rfl; have z2 := bw.cell' (i := 2) rfl; have z3 := bw.cell' (i := 3) rfl; have z4 := bw.cell' (i := 4) rfl; have z5 := bw.cell' (i := 5) rfl; have z6 := bw.cell' (i := 6) rfl; have z7 := bw.cell' (i := 7) rfl; have z8 := bw.cell' (i := 8) rfl
        go_simp; try (with_reducible rfl)
      try simp only [Act.put, List.getElem_toArray, List.getElem_cons_succ, List.getElem_cons_zero, List.setIfInBounds_toArray, List.set_cons_zero, List.set_cons_succ]
      refine wpAnyH_ready (rs := [1]) (by kernel_rfl) (by simp) ?_
      refine AllReadyH.cons rfl (fun K hK => ?_) AllReadyH.nil
      go_simp
      refine (hs _).mono ?_
      rintro e W1 ⟨rfl, k1⟩
      try go_wp2_with fail
      refine hK.out _ _ (bt hHeld k1) (fun hHeld => ?_)
      clear hK K
      try simp only [Act.put, List.getElem_toArray, List.getElem_cons_succ, List.getElem_cons_zero, List.setIfInBounds_toArray, List.set_cons_zero, List.set_cons_succ]
      refine wpAnyH_take (i := 2) (v := ?_) rfl (by kernel_rfl) (by kernel_rfl) (by kernel_rfl) (fun _ _ _ h => h) (Or.inl ⟨by rfl, ?_⟩) hHeld ?_
      rotate_left
      · intro w' hSw; try dsimp only at hSw
        have bw := b0.kept hSw
        have z0 := bw.cell' (i := 0) rfl; have z1 := bw.cell' (i := 1) rfl; have z2 := bw.cell' (i := 2) rfl; have z3 := bw.cell' (i := 3) rfl; have z4 := bw.cell' (i := 4) rfl; have z5 := bw.cell' (i := 5) rfl; have z6 := bw.cell' (i := 6) rfl; have z7 := bw.cell' (i := 7) rfl; have z8 := bw.cell' (i := 8) rfl
        go_simp; try (with_reducible rfl)
      try simp only [Act.put, List.getElem_toArray, List.getElem_cons_succ, List.getElem_cons_zero, List.setIfInBounds_toArray, List.set_cons_zero, List.set_cons_succ]
      refine wpAnyH_take (i := 3) (v := ?_) rfl (by kernel_rfl) (by kernel_rfl) (by kernel_rfl) (fun _ _ _ h => h) (Or.inl ⟨by rfl, ?_⟩) hHeld ?_
      rotate_left
      · intro w' hSw; try dsimp only at hSw
        have bw := b0.kept hSw
        have z0 := bw.cell' (i := 0) rfl; have z1 := bw.cell' (i := 1) rfl; have z2 := bw.cell' (i := 2) rfl; have z3 := bw.cell' (i := 3) rfl; have z4 := bw.cell' (i := 4) rfl; have z5 := bw.cell' (i := 5) rfl; have z6 := bw.cell' (i := 6) rfl; have z7 := bw.cell' (i := 7) rfl; have z8 := bw.cell' (i := 8) rfl
        go_simp; try (with_reducible rfl)
      try simp only [Act.put, List.getElem_toArray, List.getElem_cons_succ, List.getElem_cons_zero, List.setIfInBounds_toArray, List.set_cons_zero, List.set_cons_succ]
      refine wpAnyH_take (i := 4) (v := ?_) rfl (by kernel_rfl) (by kernel_rfl) (by kernel_rfl) (fun _ _ _ h => h) (Or.inl ⟨by rfl, ?_⟩) hHeld ?_
      rotate_left
      · intro w' hSw; try dsimp only at hSw
        have bw := b0.kept hSw
        have z0 := bw.cell' (i := 0) rfl; have z1 := bw.cell' (i := 1) rfl; have z2 := bw.cell' (i := 2) rfl; have z3 := bw.cell' (i := 3) rfl; have z4 := bw.cell' (i := 4) rfl; have z5 := bw.cell' (i := 5) rfl; have z6 := bw.cell' (i := 6) rfl; have z7 := bw.cell' (i := 7) rfl; have z8 := bw.cell' (i := 8) rfl
        go_simp; try (with_reducible rfl)
      try simp only [Act.put, List.getElem_toArray, List.getElem_cons_succ, List.getElem_cons_zero, List.setIfInBounds_toArray, List.set_cons_zero, List.set_cons_succ]
      refine wpAnyH_take (i := 5) (v := ?_) rfl (by kernel_rfl) (by kernel_rfl) (by kernel_rfl) (fun _ _ _ h => h) (Or.inl ⟨by rfl, ?_⟩) hHeld ?_
      rotate_left
      · intro w' hSw; try dsimp only at hSw
        have bw := b0.kept hSw
        have z0 := bw.cell' (i := 0) rfl; have z1 := bw.cell' (i := 1) rfl; have z2 := bw.cell' (i := 2) rfl; have z3 := bw.cell' (i := 3) rfl; have z4 := bw.cell' (i := 4) rfl; have z5 := bw.cell' (i := 5) rfl; have z6 := bw.cell' (i := 6) rfl; have z7 := bw.cell' (i := 7) rfl; have z8 := bw.cell' (i := 8) rfl
        go_simp; try (with_reducible rfl)
      try simp only [Act.put, List.getElem_toArray, List.getElem_cons_succ, List.getElem_cons_zero, List.setIfInBounds_toArray, List.set_cons_zero, List.set_cons_succ]
      refine wpAnyH_take (i := 6) (v := ?_) rfl (by kernel_rfl) (by kernel_rfl) (by kernel_rfl) (fun _ _ _ h => h) (Or.inl ⟨by rfl, ?_⟩) hHeld ?_
      rotate_left
      · intro w' hSw; try dsimp only at hSw
        have bw := b0.kept hSw
        have z0 := bw.cell' (i := 0) rfl; have z1 := bw.cell' (i := 1) rfl; have z2 := bw.cell' (i := 2) rfl; have z3 := bw.cell' (i := 3) rfl; have z4 := bw.cell' (i := 4) rfl; have z5 := bw.cell' (i := 5) rfl; have z6 := bw.cell' (i := 6) rfl; have z7 := bw.cell' (i := 7) rfl; have z8 := bw.cell' (i := 8) rfl
        go_simp; try (with_reducible rfl)
      try simp only [Act.put, List.getElem_toArray, List.getElem_cons_succ, List.getElem_cons_zero, List.setIfInBounds_toArray, List.set_cons_zero, List.set_cons_succ]
      refine wpAnyH_take (i := 7) (v := ?_) rfl (by kernel_rfl) (by kernel_rfl) (by kernel_rfl) (fun _ _ _ h => h) (Or.inl ⟨by rfl, ?_⟩) hHeld ?_
      rotate_left
      · intro w' hSw; try dsimp only at hSw
        have bw := b0.kept hSw
        have z0 := bw.cell' (i := 0) rfl; have z1 := bw.cell' (i := 1) rfl; have z2 := bw.cell' (i := 2) rfl; have z3 := bw.cell' (i := 3) rfl; have z4 := bw.cell' (i := 4) rfl; have z5 := bw.cell' (i := 5) rfl; have z6 := bw.cell' (i := 6) rfl; have z7 := bw.cell' (i := 7) rfl; have z8 := bw.cell' (i := 8) rfl
        go_simp; try (with_reducible rfl)
      try simp only [Act.put, List.getElem_toArray, List.getElem_cons_succ, List.getElem_cons_zero, List.setIfInBounds_toArray, List.set_cons_zero, List.set_cons_succ]
      refine wpAnyH_take (i := 8) (v := ?_) rfl (by kernel_rfl) (by kernel_rfl) (by kernel_rfl) (fun _ _ _ h => h) (Or.inl ⟨by rfl, ?_⟩) hHeld ?_
      rotate_left
      · intro w' hSw; try dsimp only at hSw
        have bw := b0.kept hSw
        have z0 := bw.cell' (i := 0) rfl; have z1 := bw.cell' (i := 1) rfl; have z2 := bw.cell' (i := 2) rfl; have z3 := bw.cell' (i := 3) rfl; have z4 := bw.cell' (i := 4) rfl; have z5 := bw.cell' (i := 5) rfl; have z6 := bw.cell' (i := 6) rfl; have z7 := bw.cell' (i := 7) rfl; have z8 := bw.cell' (i := 8) rfl
        go_simp; try (with_reducible rfl)
      try simp only [Act.put, List.getElem_toArray, List.getElem_cons_succ, List.getElem_cons_zero, List.setIfInBounds_toArray, List.set_cons_zero, List.set_cons_succ]
      refine wpAnyH_take (i := 9) (v := ?_) rfl (by kernel_rfl) (by kernel_rfl) (by kernel_rfl) (fun _ _ _ h => h) (Or.inl ⟨by rfl, ?_⟩) hHeld ?_
      rotate_left
      · intro w' hSw; try dsimp only at hSw
        have bw := b0.kept hSw
        have z0 := bw.cell' (i := 0) rfl; have z1 := bw.cell' (i := 1) rfl; have z2 := bw.cell' (i := 2) rfl; have z3 := bw.cell' (i := 3) rfl; have z4 := bw.cell' (i := 4) rfl; have z5 := bw.cell' (i := 5) rfl; have z6 := bw.cell' (i := 6) rfl; have z7 := bw.cell' (i := 7) rfl; have z8 := bw.cell' (i := 8) rfl
        go_simp; try (with_reducible rfl)
      try simp only [Act.put, List.getElem_toArray, List.getElem_cons_succ, List.getElem_cons_zero, List.setIfInBounds_toArray, List.set_cons_zero, List.set_cons_succ]
      refine wpAnyH_take (i := 10) (v := ?_) rfl (by kernel_rfl) (by kernel_rfl) (by kernel_rfl) (fun _ _ _ h => h) (Or.inl ⟨by rfl, ?_⟩) hHeld ?_
      rotate_left
      · intro w' hSw; try dsimp only at hSw
        have bw := b0.kept hSw
        have z0 := bw.cell' (i := 0) rfl; have z1 := bw.cell' (i := 1) rfl; have z2 := bw.cell' (i := 2) rfl; have z3 := bw.cell' (i := 3) rfl; have z4 := bw.cell' (i := 4) rfl; have z5 := bw.cell' (i := 5) rfl; have z6 := bw.cell' (i := 6) rfl; have z7 := bw.cell' (i := 7) rfl; have z8 := bw.cell' (i := 8) rfl
        go_simp; try (with_reducible rfl)
      try simp only [Act.put, List.getElem_toArray, List.getElem_cons_succ, List.getElem_cons_zero, List.setIfInBounds_toArray, List.set_cons_zero, List.set_cons_succ]
      refine wpAnyH_take (i := 11) (v := ?_) rfl (by kernel_rfl) (by kernel_rfl) (by kernel_rfl) (fun _ _ _ h => h) (Or.inl ⟨by rfl, ?_⟩) hHeld ?_
      rotate_left
      · intro w' hSw; try dsimp only at hSw
        have bw := b0.kept hSw
        have z0 := bw.cell' (i := 0) rfl; have z1 := bw.cell' (i := 1) rfl; have z2 := bw.cell' (i := 2) rfl; have z3 := bw.cell' (i := 3) rfl; have z4 := bw.cell' (i := 4) rfl; have z5 := bw.cell' (i := 5) rfl; have z6 := bw.cell' (i := 6) rfl; have z7 := bw.cell' (i := 7) rfl; have z8 := bw.cell' (i := 8) rfl
        go_simp; try (with_reducible rfl)
      try simp only [Act.put, List.getElem_toArray, List.getElem_cons_succ, List.getElem_cons_zero, List.setIfInBounds_toArray, List.set_cons_zero, List.set_cons_succ]
      refine wpAnyH_take (i := 12) (v := ?_) rfl (by kernel_rfl) (by kernel_rfl) (by kernel_rfl) (fun _ _ _ h => h) (Or.inl ⟨by rfl, ?_⟩) hHeld ?_
      rotate_left
      · intro w' hSw; try dsimp only at hSw
        have bw := b0.kept hSw
        have z0 := bw.cell' (i := 0) rfl; have z1 := bw.cell' (i := 1) rfl; have z2 := bw.cell' (i := 2) rfl; have z3 := bw.cell' (i := 3) rfl; have z4 := bw.cell' (i := 4) rfl; have z5 := bw.cell' (i := 5) rfl; have z6 := bw.cell' (i := 6) rfl; have z7 := bw.cell' (i := 7) rfl; have z8 := bw.cell' (i := 8) rfl
        go_simp; try (with_reducible rfl)
      try simp only [Act.put, List.getElem_toArray, List.getElem_cons_succ, List.getElem_cons_zero, List.setIfInBounds_toArray, List.set_cons_zero, List.set_cons_succ]
      refine wpAnyH_take (i := 13) (v := undef) rfl (by kernel_rfl) (by kernel_rfl) (by kernel_rfl) (fun _ _ _ h => h) (Or.inr ⟨by rfl, rfl⟩) hHeld ?_
      try simp only [Act.put, List.getElem_toArray, List.getElem_cons_succ, List.getElem_cons_zero, List.setIfInBounds_toArray, List.set_cons_zero, List.set_cons_succ]
      refine wpAnyH_take (i := 14) (v := undef) rfl (by kernel_rfl) (by kernel_rfl) (by kernel_rfl) (fun _ _ _ h => h) (Or.inr ⟨by rfl, rfl⟩) hHeld ?_
      try simp only [Act.put, List.getElem_toArray, List.getElem_cons_succ, List.getElem_cons_zero, List.setIfInBounds_toArray, List.set_cons_zero, List.set_cons_succ]
      refine wpAnyH_take (i := 15) (v := undef) rfl (by kernel_rfl) (by kernel_rfl) (by kernel_rfl) (fun _ _ _ h => h) (Or.inr ⟨by rfl, rfl⟩) hHeld ?_
      try simp only [Act.put, List.getElem_toArray, List.getElem_cons_succ, List.getElem_cons_zero, List.setIfInBounds_toArray, List.set_cons_zero, List.set_cons_succ]
      refine wpAnyH_take (i := 16) (v := undef) rfl (by kernel_rfl) (by kernel_rfl) (by kernel_rfl) (fun _ _ _ h => h) (Or.inr ⟨by rfl, rfl⟩) hHeld ?_
      try simp only [Act.put, List.getElem_toArray, List.getElem_cons_succ, List.getElem_cons_zero, List.setIfInBounds_toArray, List.set_cons_zero, List.set_cons_succ]
      refine wpAnyH_take (i := 17) (v := undef) rfl (by kernel_rfl) (by kernel_rfl) (by kernel_rfl) (fun _ _ _ h => h) (Or.inr ⟨by rfl, rfl⟩) hHeld ?_
      try simp only [Act.put, List.getElem_toArray, List.getElem_cons_succ, List.getElem_cons_zero, List.setIfInBounds_toArray, List.set_cons_zero, List.set_cons_succ]
      refine wpAnyH_take (i := 18) (v := undef) rfl (by kernel_rfl) (by kernel_rfl) (by kernel_rfl) (fun _ _ _ h => h) (Or.inr ⟨by rfl, rfl⟩) hHeld ?_
      try simp only [Act.put, List.getElem_toArray, List.getElem_cons_succ, List.getElem_cons_zero, List.setIfInBounds_toArray, List.set_cons_zero, List.set_cons_succ]
      refine wpAnyH_take (i := 19) (v := undef) rfl (by kernel_rfl) (by kernel_rfl) (by kernel_rfl) (fun _ _ _ h => h) (Or.inr ⟨by rfl, rfl⟩) hHeld ?_
      try simp only [Act.put, List.getElem_toArray, List.getElem_cons_succ, List.getElem_cons_zero, List.setIfInBounds_toArray, List.set_cons_zero, List.set_cons_succ]
      refine wpAnyH_take (i := 20) (v := undef) rfl (by kernel_rfl) (by kernel_rfl) (by kernel_rfl) (fun _ _ _ h => h) (Or.inr ⟨by rfl, rfl⟩) hHeld ?_
      try simp only [Act.put, List.getElem_toArray, List.getElem_cons_succ, List.getElem_cons_zero, List.setIfInBounds_toArray, List.set_cons_zero, List.set_cons_succ]
      refine wpAnyH_take (i := 21) (v := ?_) rfl (by kernel_rfl) (by kernel_rfl) (by kernel_rfl) (fun _ _ _ h => h) (Or.inl ⟨by rfl, ?_⟩) hHeld ?_
      rotate_left
      · intro w' hSw; try dsimp only at hSw
        have bw := b0.kept hSw
        have z0 := bw.cell' (i := 0) rfl; have z1 := bw.cell' (i := 1) rfl; have z2 := bw.cell' (i := 2) rfl; have z3 := bw.cell' (i := 3) rfl; have z4 := bw.cell' (i := 4) rfl; have z5 := bw.cell' (i := 5) rfl; have z6 := bw.cell' (i := 6) rfl; have z7 := bw.cell' (i := 7) rfl; have z8 := bw.cell' (i := 8) rfl
        go_simp; try (with_reducible rfl)
      try simp only [Act.put, List.getElem_toArray, List.getElem_cons_succ, List.getElem_cons_zero, List.setIfInBounds_toArray, List.set_cons_zero, List.set_cons_succ]
      refine wpAnyH_take (i := 22) (v := ?_) rfl (by kernel_rfl) (by kernel_rfl) (by kernel_rfl) (fun _ _ _ h => h) (Or.inl ⟨by rfl, ?_⟩) hHeld ?_
      rotate_left
      · intro w' hSw; try dsimp only at hSw
        have bw := b0.kept hSw
        have z0 := bw.cell' (i := 0) rfl; have z1 := bw.cell' (i := 1) rfl; have z2 := bw.cell' (i := 2) rfl; have z3 := bw.cell' (i := 3) rfl; have z4 := bw.cell' (i := 4) rfl; have z5 := bw.cell' (i := 5) rfl; have z6 := bw.cell' (i := 6) rfl; have z7 := bw.cell' (i := 7) rfl; have z8 := bw.cell' (i := 8) rfl
        go_simp; try (with_reducible rfl)
      try simp only [Act.put, List.getElem_toArray, List.getElem_cons_succ, List.getElem_cons_zero, List.setIfInBounds_toArray, List.set_cons_zero, List.set_cons_succ]
      refine wpAnyH_done (by kernel_rfl) ?_ _
      refine NoPanic.normal ?_
      go_wp2_with fail
      go_ret
      exact ⟨ret_bool HN.out.symm, bt hb0 hHeld⟩
/-- The first page of a list that is none that is gone. -/
def firstOf : List Int → Int
  | [] => -1
  | x :: r => if x = -1 then firstOf r else x
def victimP (T : Tab) : Int := match T.logs with | [] => -1 | l :: _ => firstOf l.pages
theorem firstOf_hit {xs : List Int} : ∀ {k : Nat}, k < xs.length → (∀ i, i < k → eI xs i = -1) → eI xs k ≠ -1 → firstOf xs = eI xs k := by
  induction xs with
  | nil => intro k h; simp at h
  | cons x r ih =>
    intro k hk hall hne
    cases k with
    | zero => have : x ≠ -1 := hne; simp [firstOf, this, eI]
    | succ k =>
      have h0 : x = -1 := hall 0 (by omega)
      have := ih (k := k) (by simpa using hk) (fun i hi => hall (i + 1) (by omega)) hne
      simp only [firstOf, h0, if_true]
      rw [this]; rfl
theorem firstOf_none {xs : List Int} (h : ∀ i, i < xs.length → eI xs i = -1) : firstOf xs = -1 := by
  induction xs with
  | nil => rfl
  | cons x r ih =>
    have h0 : x = -1 := h 0 (by simp)
    simp only [firstOf, h0, if_true]
    exact ih (fun i hi => h (i + 1) (by simpa using hi))
set_option linter.unusedSimpArgs false in
set_option maxRecDepth 100000 in
set_option maxHeartbeats 4000000 in
theorem victim_any (V : TabV) (T : Tab) (w : World) (h : TabIn w V T) :
    Calls Try.prog 59 #[.agg (tabA V T)] w fun e w' => e = .returned (.int .i64 (victimP T)) ∧ Below w.heap.size w w' := by
  have hb0 := below_alloc w (.cells (tabA V T) 28)
  have b0 := Blk.new' w 28 (tabA V T)
  have hT := h.below hb0
  unfold tabA at hb0 b0 hT ⊢
  have hLL := hT.logs.len
  cases hlg : T.logs with
  | nil =>
    have HV : Hid (victimP T = -1) := by show _ = _; unfold victimP; rw [hlg]
    rw [hlg] at hLL
    have hn0 : V.nl = 0 := hLL.symm
    rw [hn0] at hb0 b0 hT ⊢
    clear hlg hLL hT h
    go_enter Try.func59, Try.ntmps59
    go_upto_region 1 with fail
    generalize hW : w.alloc (.cells #[.int .i64 T.pages, .int .i64 T.logical, .int .i64 T.k, .slice V.pd V.nd V.cd, .slice V.ph V.nh V.ch, .int .i64 T.sp, .int .i64 T.sl, .int .i64 T.su, .slice V.pl 0 V.cl] 28) = W at *
    clear hW
    have z8 := b0.cell' (i := 8) rfl
    go_wp2_with fail
    go_ret
    rw [HV.out]
    exact ⟨rfl, hb0⟩
  | cons l rest =>
    have HV : Hid (victimP T = firstOf l.pages) := by show _ = _; unfold victimP; rw [hlg]
    rw [hlg] at hLL
    have hpos : 0 < V.nl := by rw [← hLL]; simp
    obtain ⟨bp, op, hp, _, hcp⟩ := hT.logs.at' hpos
    obtain ⟨q, m, d, c0, c1, hin⟩ := hcp 0 l (by rw [hlg]; rfl)
    rw [Nat.zero_mul, Nat.add_zero] at c0 c1
    have hpi : (0 : Int) < (V.nl : Int) := by omega
    have hpn : ((V.nl : Int) == 0) = false := by rw [beq_eq_false_iff_ne]; omega
    have HLm : Hid (l.pages.length = m) := hin.len
    have hm47 := hin.room
    rw [hp] at hb0 b0 c0 c1 hin ⊢
    clear hcp hlg hLL hT h hp
    generalize hN : V.nl = N at *
    clear hN
    go_enter Try.func59, Try.ntmps59
    go_upto_region 1 with fail
    generalize hW : w.alloc (.cells #[.int .i64 T.pages, .int .i64 T.logical, .int .i64 T.k, .slice V.pd V.nd V.cd, .slice V.ph V.nh V.ch, .int .i64 T.sp, .int .i64 T.sl, .int .i64 T.su, .slice (some ⟨bp, op, none⟩) N V.cl] 28) = W at *
    clear hW
    have z8 := b0.cell' (i := 8) rfl
    go_wp2_with fail
    go_loopw [15] (fun i wr => ∃ k : Nat, k ≤ m ∧ i = .int .i64 k ∧ wr = W ∧ ∀ i, i < k → eI l.pages i = -1) (fun i _ => m - (intOf i).toNat)
    case atStart => exact ⟨0, Nat.zero_le _, rfl, rfl, fun i h => by omega⟩
    case round =>
      obtain ⟨k, hk, rfl, hwr, hall⟩ := hrel
      subst hwr
      have HA : Hid (∀ i, i < k → eI l.pages i = -1) := hall
      clear hall
      by_cases hlt : k < m
      · obtain ⟨bq, oq, hq, _, hcq⟩ := hin.at' (by omega)
        have ck := hcq k hlt
        have hk1 : (k : Int) < (m : Int) := by omega
        rw [hq]
        clear hq hcq
        by_cases hx : eI l.pages k = -1
        · have HX : Hid (eI l.pages k = -1) := hx
          rw [hx] at ck
          clear hx
          go_wp2_with fail
          go_roundw
          case rel =>
            refine ⟨k + 1, by omega, by go_num, trivial, fun i hi => ?_⟩
            rcases Nat.lt_succ_iff_lt_or_eq.1 hi with h' | h'
            · exact HA.out i h'
            · rw [h']; exact HX.out
          case measure => simp [intOf]; omega
        · have HF : Hid (firstOf l.pages = eI l.pages k) := firstOf_hit (by rw [HLm.out]; exact hlt) HA.out hx
          have hx' : (eI l.pages k == -1) = false := by simpa using hx
          clear hx
          generalize eI l.pages k = x at *
          go_wp2_with fail
          go_ret
          rw [HV.out, HF.out]
          exact ⟨rfl, hb0⟩
      · obtain rfl : k = m := by omega
        have HF : Hid (firstOf l.pages = -1) := firstOf_none (fun i hi => HA.out i (by rw [HLm.out] at hi; exact hi))
        go_wp2_with fail
        go_ret
        rw [HV.out, HF.out]
        exact ⟨rfl, hb0⟩
end Go.Proofs.Ythibaefoioeghaa
