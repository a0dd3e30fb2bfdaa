/-
  For every header h and all data: the call of PageMakes returns true (the page of h and data, its error and Check's are the document's), and both arguments read afterwards as they read before. No condition.
-/
import Derived.Test.YtmagcohdhljaeaaPgRefEnc
namespace Go.Proofs.Ytmagcohdhljaeaa
open Go.ChangeShapes Go.WideShapes Go.ChangeAt Go.RowKit
theorem encP_any (k g s t : Int) {data : List Nat} (hd : ∀ x ∈ data, x < 256) : IsP (encP k g s t data) := by
  by_cases h : encE k g s t data = 0
  · have hl : data.length ≤ 256 := by
      unfold encE at h
      split at h
      · split at h
        · simp at h
        · omega
      · simp at h
    exact encP_isP _ _ _ _ hl hd
  · unfold encP
    rw [if_neg h]
    exact isP_fill 0 (by decide)
set_option linter.unusedSimpArgs false in
set_option maxRecDepth 100000 in
set_option maxHeartbeats 4000000 in
theorem makes_walk (k g s t : Int) (p : Option Addr) (n c : Nat) (data : List Nat) (w : World) (hd : In w p n c data) :
    Calls Try.prog 3 #[.agg #[.int .i64 k, .int .i64 g, .int .i64 s, .int .i64 t], .slice p n c] w fun e w' => e = .returned (.bool true) ∧ Below w.heap.size w w' := by
  have hz := zeroPage
  have b0 := Blk.new' w 23 #[.int .i64 k, .int .i64 g, .int .i64 s, .int .i64 t]
  have hbel := below_alloc w (.cells #[.int .i64 k, .int .i64 g, .int .i64 s, .int .i64 t] 23)
  have hP := encP_any k g s t hd.byte
  have hen := fun w h => encode_any k g s t p n c data w h
  have hqe := fun w h => qencode_any k g s t p n c data w h
  have hck := fun w => check_any k g s t w
  have hqc := fun w => qcheck_any k g s t w
  generalize encP k g s t data = P at *
  generalize encE k g s t data = ee at *
  generalize chkE k g s t = ce at *
  have hq := fun W => run_equalIn_page W P P hP.1 hP.1
  rw [show (P == P) = true from by simp] at hq
  have hee : (ee == ee) = true := by simp
  have hce : (ce == ce) = true := by simp
  go_enter Try.func3, Try.ntmps3
  go_wp2_with fail
  refine (plive_any _).mono ?_
  rintro e w1 ⟨rfl, hb1⟩
  have hB1 := bt hbel hb1
  have b1 := b0.kept hb1
  clear hbel hb1 b0
  go_wp2_with (refine wpList_load_mid rfl 23 (.tmp 2) rfl w.heap.size 0 rfl [.int .i64 k, .int .i64 g, .int .i64 s, .int .i64 t] _ (b1.range 0 4 _ rfl) Try.underlying23 rfl hdr_size ?_)
  refine (hen _ (hd.below hB1)).mono ?_
  rintro e w2 ⟨rfl, hb2⟩
  have hB2 := bt hB1 hb2
  have b2 := b1.kept hb2
  clear hB1 hb2 b1 hen
  go_wp2_with (first
    | (refine wpList_store_blk rfl 29 (.tmp 5) (.tmp 15) rfl _ _ (vals P) rfl rfl (Blk.new w2 29 (vals (fillP 0))) (page_fits hP.1 (fillP_length 0)) (sizeP hP.1) (vals_one _) ?_; intro w3 h3 ht3; rw [page_whole hP.1 (fillP_length 0)] at h3; have hb3 : Below w2.heap.size w2 w3 := ht3.below (below_alloc w2 _) (Nat.le_refl _); have hB3 := bt hB2 hb3; have b3 := b2.kept hb3; clear hb3 ht3)
    | (refine wpList_load_mid rfl 23 (.tmp 2) rfl w.heap.size 0 rfl [.int .i64 k, .int .i64 g, .int .i64 s, .int .i64 t] _ (b3.range 0 4 _ rfl) Try.underlying23 rfl hdr_size ?_))
  refine (hqe _ (hd.below hB3)).mono ?_
  rintro e w4 ⟨rfl, hb4⟩
  have hB4 := bt hB3 hb4
  have b4 := b3.kept hb4
  have h4 := h3.kept hb4
  clear hB2 hB3 hb4 b2 b3 h3 hqe
  go_wp2_with (refine wpList_store_blk rfl 29 (.tmp 7) (.tmp 21) rfl _ _ (vals P) rfl rfl (Blk.new w4 29 (vals (fillP 0))) (page_fits hP.1 (fillP_length 0)) (sizeP hP.1) (vals_one _) ?_; intro w5 h5 ht5; rw [page_whole hP.1 (fillP_length 0)] at h5; have hb5 : Below w4.heap.size w4 w5 := ht5.below (below_alloc w4 _) (Nat.le_refl _); have hB5 := bt hB4 hb5; have b5 := b4.kept hb5; have h6 := h4.kept hb5; clear hb5 ht5)
  clear hB4 b4 h4
  refine wp_region_noPanic ?_
  refine wp_region_held_drew (S := fun w' => Blk w' w2.heap.size 29 (vals P) ∧ Blk w' w4.heap.size 29 (vals P) ∧ Blk w' w.heap.size 23 [.int .i64 k, .int .i64 g, .int .i64 s, .int .i64 t]) (by kernel_rfl) ⟨h6.drew, h5.drew, b5.drew⟩ (fun hHeld => ?_)
  refine wpAnyH_take (i := 0) (v := .agg (vals P).toArray) rfl (by kernel_rfl) (by kernel_rfl) (by kernel_rfl) (fun _ _ _ h => h) (yieldsIf_load_mid (by rfl) _ _ rfl (w2.heap.size) 0 rfl (vals P) _ (fun w hSw => hSw.1.page hP.1) Try.underlying29 rfl (sizeP hP.1)) hHeld ?_
  try simp only [Act.put, List.getElem_toArray, List.getElem_cons_succ, List.getElem_cons_zero, List.setIfInBounds_toArray, List.set_cons_zero, List.set_cons_succ]
  refine wpAnyH_take (i := 1) (v := .agg (vals P).toArray) rfl (by kernel_rfl) (by kernel_rfl) (by kernel_rfl) (fun _ _ _ h => h) (yieldsIf_load_mid (by rfl) _ _ rfl (w4.heap.size) 0 rfl (vals P) _ (fun w hSw => hSw.2.1.page hP.1) Try.underlying29 rfl (sizeP hP.1)) hHeld ?_
  try simp only [Act.put, List.getElem_toArray, List.getElem_cons_succ, List.getElem_cons_zero, List.setIfInBounds_toArray, List.set_cons_zero, List.set_cons_succ]
  refine wpAnyH_take (i := 2) (v := ?_) rfl (by kernel_rfl) (by kernel_rfl) (by kernel_rfl) (fun _ _ _ h => h) (Or.inl ⟨by rfl, ?_⟩) hHeld ?_
  rotate_left
  · intro w hSw; try dsimp only at hSw
    go_simp; try (with_reducible rfl)
  try simp only [Act.put, List.getElem_toArray, List.getElem_cons_succ, List.getElem_cons_zero, List.setIfInBounds_toArray, List.set_cons_zero, List.set_cons_succ]
  refine wpAnyH_take (i := 3) (v := ?_) rfl (by kernel_rfl) (by kernel_rfl) (by kernel_rfl) (fun _ _ _ h => h) (Or.inl ⟨by rfl, ?_⟩) hHeld ?_
  rotate_left
  · intro w hSw; try dsimp only at hSw
    go_simp; try (with_reducible rfl)
  try simp only [Act.put, List.getElem_toArray, List.getElem_cons_succ, List.getElem_cons_zero, List.setIfInBounds_toArray, List.set_cons_zero, List.set_cons_succ]
  refine wpAnyH_take (i := 4) (v := ?_) rfl (by kernel_rfl) (by kernel_rfl) (by kernel_rfl) (fun _ _ _ h => h) (Or.inl ⟨by rfl, ?_⟩) hHeld ?_
  rotate_left
  · intro w hSw; try dsimp only at hSw
    go_simp; try (with_reducible rfl)
  try simp only [Act.put, List.getElem_toArray, List.getElem_cons_succ, List.getElem_cons_zero, List.setIfInBounds_toArray, List.set_cons_zero, List.set_cons_succ]
  refine wpAnyH_take (i := 5) (v := ?_) rfl (by kernel_rfl) (by kernel_rfl) (by kernel_rfl) (fun _ _ _ h => h) (Or.inl ⟨by rfl, ?_⟩) hHeld ?_
  rotate_left
  · intro w hSw; try dsimp only at hSw
    go_simp; try (with_reducible rfl)
  try simp only [Act.put, List.getElem_toArray, List.getElem_cons_succ, List.getElem_cons_zero, List.setIfInBounds_toArray, List.set_cons_zero, List.set_cons_succ]
  refine wpAnyH_take (i := 6) (v := ?_) rfl (by kernel_rfl) (by kernel_rfl) (by kernel_rfl) (fun _ _ _ h => h) (Or.inl ⟨by rfl, ?_⟩) hHeld ?_
  rotate_left
  · intro w hSw; try dsimp only at hSw
    go_simp; try (with_reducible rfl)
  try simp only [Act.put, List.getElem_toArray, List.getElem_cons_succ, List.getElem_cons_zero, List.setIfInBounds_toArray, List.set_cons_zero, List.set_cons_succ]
  refine wpAnyH_take (i := 7) (v := ?_) rfl (by kernel_rfl) (by kernel_rfl) (by kernel_rfl) (fun _ _ _ h => h) (Or.inl ⟨by rfl, ?_⟩) hHeld ?_
  rotate_left
  · intro w hSw; try dsimp only at hSw
    go_simp; try (with_reducible rfl)
  try simp only [Act.put, List.getElem_toArray, List.getElem_cons_succ, List.getElem_cons_zero, List.setIfInBounds_toArray, List.set_cons_zero, List.set_cons_succ]
  refine wpAnyH_take (i := 8) (v := ?_) rfl (by kernel_rfl) (by kernel_rfl) (by kernel_rfl) (fun _ _ _ h => h) (Or.inl ⟨by rfl, ?_⟩) hHeld ?_
  rotate_left
  · intro w hSw; try dsimp only at hSw
    go_simp; try (with_reducible rfl)
  try simp only [Act.put, List.getElem_toArray, List.getElem_cons_succ, List.getElem_cons_zero, List.setIfInBounds_toArray, List.set_cons_zero, List.set_cons_succ]
  refine wpAnyH_take (i := 9) (v := .agg ([.int .i64 k, .int .i64 g, .int .i64 s, .int .i64 t]).toArray) rfl (by kernel_rfl) (by kernel_rfl) (by kernel_rfl) (fun _ _ _ h => h) (yieldsIf_load_mid (by rfl) _ _ rfl (w.heap.size) 0 rfl ([.int .i64 k, .int .i64 g, .int .i64 s, .int .i64 t]) _ (fun w hSw => hSw.2.2.range 0 4 _ rfl) Try.underlying23 rfl hdr_size) hHeld ?_
  try simp only [Act.put, List.getElem_toArray, List.getElem_cons_succ, List.getElem_cons_zero, List.setIfInBounds_toArray, List.set_cons_zero, List.set_cons_succ]
  refine wpAnyH_take (i := 11) (v := .agg ([.int .i64 k, .int .i64 g, .int .i64 s, .int .i64 t]).toArray) rfl (by kernel_rfl) (by kernel_rfl) (by kernel_rfl) (fun _ _ _ h => h) (yieldsIf_load_mid (by rfl) _ _ rfl (w.heap.size) 0 rfl ([.int .i64 k, .int .i64 g, .int .i64 s, .int .i64 t]) _ (fun w hSw => hSw.2.2.range 0 4 _ rfl) Try.underlying23 rfl hdr_size) hHeld ?_
  try simp only [Act.put, List.getElem_toArray, List.getElem_cons_succ, List.getElem_cons_zero, List.setIfInBounds_toArray, List.set_cons_zero, List.set_cons_succ]
  refine wpAnyH_ready (rs := [10]) (by kernel_rfl) (by simp) ?_
  refine AllReadyH.cons rfl (fun K hK => ?_) AllReadyH.nil
  go_simp
  refine (hck _).mono ?_
  rintro e Wg1 ⟨rfl, g1⟩
  try go_wp2_with fail
  refine hK.out _ _ ⟨hHeld.1.kept g1, hHeld.2.1.kept g1, hHeld.2.2.kept g1⟩ (fun hHeld => ?_)
  clear hK K
  try simp only [Act.put, List.getElem_toArray, List.getElem_cons_succ, List.getElem_cons_zero, List.setIfInBounds_toArray, List.set_cons_zero, List.set_cons_succ]
  refine wpAnyH_ready (rs := [12]) (by kernel_rfl) (by simp) ?_
  refine AllReadyH.cons rfl (fun K hK => ?_) AllReadyH.nil
  go_simp
  refine (hqc _).mono ?_
  rintro e Wg2 ⟨rfl, g2⟩
  try go_wp2_with fail
  refine hK.out _ _ ⟨hHeld.1.kept g2, hHeld.2.1.kept g2, hHeld.2.2.kept g2⟩ (fun hHeld => ?_)
  clear hK K
  try simp only [Act.put, List.getElem_toArray, List.getElem_cons_succ, List.getElem_cons_zero, List.setIfInBounds_toArray, List.set_cons_zero, List.set_cons_succ]
  refine wpAnyH_take (i := 13) (v := ?_) rfl (by kernel_rfl) (by kernel_rfl) (by kernel_rfl) (fun _ _ _ h => h) (Or.inl ⟨by rfl, ?_⟩) hHeld ?_
  rotate_left
  · intro w hSw; try dsimp only at hSw
    go_simp; try (with_reducible rfl)
  try simp only [Act.put, List.getElem_toArray, List.getElem_cons_succ, List.getElem_cons_zero, List.setIfInBounds_toArray, List.set_cons_zero, List.set_cons_succ]
  refine wpAnyH_take (i := 14) (v := ?_) rfl (by kernel_rfl) (by kernel_rfl) (by kernel_rfl) (fun _ _ _ h => h) (Or.inl ⟨by rfl, ?_⟩) hHeld ?_
  rotate_left
  · intro w hSw; try dsimp only at hSw
    go_simp; try (with_reducible rfl)
  try simp only [Act.put, List.getElem_toArray, List.getElem_cons_succ, List.getElem_cons_zero, List.setIfInBounds_toArray, List.set_cons_zero, List.set_cons_succ]
  refine wpAnyH_take (i := 15) (v := ?_) rfl (by kernel_rfl) (by kernel_rfl) (by kernel_rfl) (fun _ _ _ h => h) (Or.inl ⟨by rfl, ?_⟩) hHeld ?_
  rotate_left
  · intro w hSw; try dsimp only at hSw
    go_simp; try (with_reducible rfl)
  try simp only [Act.put, List.getElem_toArray, List.getElem_cons_succ, List.getElem_cons_zero, List.setIfInBounds_toArray, List.set_cons_zero, List.set_cons_succ]
  refine wpAnyH_done (by kernel_rfl) ?_ _
  refine NoPanic.normal ?_
  go_wp2
  go_ret
  have q1 := (Below.refl w5.heap.size w5).drew
  have q2 := q1.trans (g1.mono q1.size)
  have q3 := q2.trans (g2.mono q2.size)
  exact ⟨rfl, bt hB5 q3⟩
set_option maxRecDepth 100000 in
theorem makes_lifted (os : Os) (started : os.Started) (H : Type) (enc : TypeId × Value → H) :
    ReturnsInHanded {} Try.checked os 3 .any (Rows.pageMakesSpec.pre6 enc Try.prog Try.f3 Rows.pageMakesRow.domain false) (Rows.pageMakesSpec.post enc Try.prog Try.f3 false true false false) := by
  refine returnsInHanded_of_change_sized (C := Try.checked) own started (by kernel_rfl) Try.func3
    (ChangeSpec.witness6 (enc := enc) (C := Try.checked) false ⟨#[], #[.agg #[.int .i64 0, .int .i64 0, .int .i64 0, .int .i64 0], .slice none 0 0], []⟩ 8 (by kernel_rfl) (by kernel_rfl) (by kernel_rfl) (by kernel_rfl)) ?_
  intro W base args ds gs before hval0 hW hcnd hsz0 _
  have hval : ∀ (j : Nat) t v, Try.f3.params[j]? = some t → args[j]? = some v → Value.okWide Try.prog W .any base t v := hval0
  have hsz : (DataW.weightsEach Try.prog (Try.f3.params.toList ++ Rows.pageMakesSpec.plain.varTypes Try.prog) (ds ++ gs)).all (· ≤ reachBytes) = true := hsz0
  have hW' := hW
  obtain ⟨p, q, hA0, hV, rfl, hfz, hnd⟩ := hW
  have hA : DataW.TrodAll enc Try.prog W 0 (fun _ => true) true Try.f3.params.toList args.toList ds p := hA0
  rw [Try.params3] at hA hval hsz
  obtain ⟨v0, vs0, d0, ds0, p0, q0, hargs, rfl, rfl, h0, r0⟩ := trodAll_cons hA
  obtain ⟨v1, vs1, d1, ds1, p1, q1, rfl, rfl, rfl, h1, r1⟩ := trodAll_cons r0
  obtain ⟨rfl, rfl, rfl⟩ := trodAll_nil r1
  obtain rfl : args = #[v0, v1] := by cases args; simp_all
  obtain ⟨rfl, rfl⟩ := trodVars_none hV
  obtain ⟨k, g, s, t, rfl⟩ := okHdr (hval 0 23 v0 rfl rfl)
  have lt0 : ∀ x ∈ p0, x.block < W.heap.size := by obtain ⟨m, hm⟩ := h0; exact DataW.trod_lt m _ _ _ hm
  obtain ⟨a1, len1, cap1, rfl⟩ := okWide_slice Try.underlying24 (hval 1 24 v1 rfl rfl)
  have lt1 : ∀ x ∈ p1, x.block < W.heap.size := by obtain ⟨m, hm⟩ := h1; exact DataW.trod_lt m _ _ _ hm
  obtain ⟨z1, w1⟩ := opened h1 hsz (j := 1) rfl rfl
  clear hA0 hval0 hsz0
  refine (makes_walk k g s t a1 len1 cap1 z1 W w1).mono fun e W' ⟨he, bel⟩ => ?_
  subst he
  exact ⟨_, rfl, _, _, _, [], _, [], hW', trodAll_mk1 (shut_bool Try.underlying4 _), (trodAll_cons_mk (Below.trod laidOut (by kernel_rfl) (of_decide_eq_true (by kernel_rfl)) h0 bel lt0) (trodAll_cons_mk (Below.trod laidOut (by kernel_rfl) (of_decide_eq_true (by kernel_rfl)) h1 bel lt1) trodAll_mk0)), rfl, bel.frame _, fun h => by cases h⟩
theorem pageMakes_holds : Rows.PageMakesSaid :=
  OpenClaim.holds_of_wide 3 Try.f3 rfl rfl rfl rfl rfl rfl rfl ⟨rfl, rfl, rfl, rfl, rfl⟩ rfl rfl rfl rfl rfl (by kernel_rfl) Try.func3 (by kernel_rfl)
    (of_decide_eq_true (by kernel_rfl)) (by unfold Func.isWrapper; first | (rw [if_pos (by decide +kernel)]; kernel_rfl) | (rw [if_neg (by decide +kernel)]; exact ⟨rfl, rfl⟩))
    (fun os started H enc _ => makes_lifted os started H enc)
#print axioms pageMakes_holds
end Go.Proofs.Ytmagcohdhljaeaa
