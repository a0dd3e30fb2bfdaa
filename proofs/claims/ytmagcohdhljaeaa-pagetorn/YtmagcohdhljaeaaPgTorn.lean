/-
  For every header h, all data and every mask: the call of PageTorn returns true (whatever mask tears a page that was encoded: it is as it was, or it is told that it is erased or torn), and all three arguments read afterwards as they read before. No condition.
-/
import Derived.Test.YtmagcohdhljaeaaPgLift
namespace Go.Proofs.Ytmagcohdhljaeaa
open Go.ChangeShapes Go.WideShapes Go.ChangeAt Go.RowKit
theorem state_three (xs : List Nat) : stateL xs = 10 ∨ stateL xs = 11 ∨ stateL xs = 0 := by
  unfold stateL; split
  · exact .inl rfl
  · split
    · exact .inr (.inr rfl)
    · exact .inr (.inl rfl)
theorem state_ok {ys : List Nat} (h : stateL ys = 0) : 4 ≤ ys.length ∧ ys.length ≤ 1048580 ∧ ys.drop (ys.length - 4) = cnt (ys.take (ys.length - 4)) := by
  unfold stateL at h
  split at h
  · simp at h
  · split at h
    · assumption
    · simp at h
theorem sided {xs ms : List Nat} (hm : xs.length ≤ 1048576) (hx : ∀ x ∈ xs, x < 256) (hms : ∀ x ∈ ms, x < 256) (h : stateL (maskL (xs ++ cnt xs) ms) = 0) : maskL (xs ++ cnt xs) ms = xs ++ cnt xs := by
  obtain ⟨_, _, h3⟩ := state_ok h
  have hl : (maskL (xs ++ cnt xs) ms).length = xs.length + 4 := by rw [maskL_length, List.length_append, cnt_length]
  rw [hl, show xs.length + 4 - 4 = xs.length from by omega] at h3
  have hb : ∀ x ∈ maskL (xs ++ cnt xs) ms, x < 256 := maskL_byte (by intro x hxm; rcases List.mem_append.1 hxm with h | h; exact hx x h; exact cntZ_byte _ x h) hms
  have hcov := fun i => maskL_cov (xs ++ cnt xs) ms i
  generalize maskL (xs ++ cnt xs) ms = y at *
  have e : y = y.take xs.length ++ cnt (y.take xs.length) := by
    rw [← h3, List.take_append_drop]
  have hlt : (y.take xs.length).length = xs.length := by rw [List.length_take]; omega
  have := seal_cov (xs := xs) (ys := y.take xs.length) hlt hm hx (fun x hxm => hb x (List.mem_of_mem_take hxm)) (fun i _ => by rw [← e]; exact hcov i)
  rw [this] at e
  exact e
/-- What is told of a page that was encoded and torn. -/
theorem torn_told {k g s t : Int} {data ms : List Nat} (he : encE k g s t data = 0) (hd : ∀ x ∈ data, x < 256) (hms : ∀ x ∈ ms, x < 256) (hne : ¬ maskL (encP k g s t data) ms = encP k g s t data) :
    decE (maskL (encP k g s t data) ms) = 10 ∨ decE (maskL (encP k g s t data) ms) = 11 := by
  have hc : chkB k g s t = true ∧ data.length ≤ 256 := by
    unfold encE at he
    split at he
    · split at he
      · simp at he
      · exact ⟨by assumption, by omega⟩
    · simp at he
  have e : encP k g s t data = bodyL k g s t data ++ cnt (bodyL k g s t data) := by unfold encP; rw [if_pos he]; rfl
  rw [e] at hne ⊢
  have hs : ¬ stateL (maskL (bodyL k g s t data ++ cnt (bodyL k g s t data)) ms) = 0 := fun h0 => hne (sided (by rw [bodyL_length hc.1 hc.2]; decide) (bodyL_byte hc.1 hd) hms h0)
  have e2 : decE (maskL (bodyL k g s t data ++ cnt (bodyL k g s t data)) ms) = stateL (maskL (bodyL k g s t data ++ cnt (bodyL k g s t data)) ms) := by unfold decE; rw [if_neg hs]
  rw [e2]
  rcases state_three (maskL (bodyL k g s t data ++ cnt (bodyL k g s t data)) ms) with h | h | h
  · exact .inl h
  · exact .inr h
  · exact absurd h hs
theorem isP_maskL {P ms : List Nat} (hP : IsP P) (hms : ∀ x ∈ ms, x < 256) : IsP (maskL P ms) := ⟨by rw [maskL_length]; exact hP.1, maskL_byte hP.2 hms⟩
theorem encP_ok {k g s t : Int} {data : List Nat} (he : encE k g s t data = 0) (hd : ∀ x ∈ data, x < 256) : IsP (encP k g s t data) ∧ data.length ≤ 256 := by
  have hl : data.length ≤ 256 := by
    unfold encE at he
    split at he
    · split at he
      · simp at he
      · omega
    · simp at he
  exact ⟨encP_isP _ _ _ _ hl hd, hl⟩
set_option maxRecDepth 100000 in
set_option maxHeartbeats 4000000 in
theorem torn_walk (k g s t : Int) (p q : Option Addr) (n c m d : Nat) (data ms : List Nat) (w : World) (hd : In w p n c data) (hm : In w q m d ms) :
    Calls Try.prog 7 #[.agg #[.int .i64 k, .int .i64 g, .int .i64 s, .int .i64 t], .slice p n c, .slice q m d] w fun e w' => e = .returned (.bool true) ∧ Below w.heap.size w w' := by
  have hz := zeroPage
  have hbel := below_alloc w (.cells #[.int .i64 k, .int .i64 g, .int .i64 s, .int .i64 t] 23)
  have b0 := Blk.new' w 23 #[.int .i64 k, .int .i64 g, .int .i64 s, .int .i64 t]
  by_cases hE : encE k g s t data = 0
  · have hP := (encP_ok hE hd.byte).1
    have hQ := isP_maskL hP hm.byte
    have HT : Hid (¬ maskL (encP k g s t data) ms = encP k g s t data → decE (maskL (encP k g s t data) ms) = 10 ∨ decE (maskL (encP k g s t data) ms) = 11) := torn_told hE hd.byte hm.byte
    have HE : Hid (encE k g s t data = 0) := hE
    clear hE
    have hen := fun w h => encode_any k g s t p n c data w h
    rw [HE.out] at hen
    have hte := fun w h => tear_any (encP k g s t data) ms hP q m d w h
    generalize maskL (encP k g s t data) ms = Q at *
    generalize encP k g s t data = P at *
    have hq := fun W => run_equalIn_page W Q P hQ.1 hP.1
    go_enter Try.func7, Try.ntmps7
    go_wp2_with fail
    refine (plive_any _).mono ?_
    rintro e w1 ⟨rfl, hb1⟩
    have hB1 := bt hbel hb1
    have b1 := b0.kept hb1
    clear hbel hb1 b0
    go_wp2_with (refine wpList_load_mid rfl 23 _ rfl w.heap.size 0 rfl [.int .i64 k, .int .i64 g, .int .i64 s, .int .i64 t] _ (b1.range 0 4 _ rfl) Try.underlying23 rfl hdr_size ?_)
    refine (hen _ (hd.below hB1)).mono ?_
    rintro e w2 ⟨rfl, hb2⟩
    have hB2 := bt hB1 hb2
    clear hB1 hb2 b1 hen
    go_wp2_with (first
      | (refine wpList_store_blk rfl 29 (.tmp 7) (.tmp 16) rfl _ _ (vals P) rfl rfl (Blk.new w2 29 (vals (fillP 0))) (page_fits hP.1 (fillP_length 0)) (sizeP hP.1) (vals_one _) ?_; intro w3 h3 ht3; rw [page_whole hP.1 (fillP_length 0)] at h3; have hb3 : Below w2.heap.size w2 w3 := ht3.below (below_alloc w2 _) (Nat.le_refl _); have hB3 := bt hB2 hb3; clear hb3 ht3)
      | (refine wpList_load_mid rfl 29 (.tmp 7) rfl w2.heap.size 0 rfl (vals P) _ (h3.page hP.1) Try.underlying29 rfl (sizeP hP.1) ?_))
    refine (hte _ (hm.below hB3)).mono ?_
    rintro e w4 ⟨rfl, hb4⟩
    have hB4 := bt hB3 hb4
    have h4 := h3.kept hb4
    have hl4 : w2.heap.size < w4.heap.size := h4.lt
    clear hB3 hb4 h3 hte hB2
    cases hqp : (Q == P) with
    | true =>
      go_wp2_with (first
        | (refine wpList_store_blk rfl 29 (.tmp 9) (.tmp 22) rfl _ _ (vals Q) rfl rfl (Blk.new w4 29 (vals (fillP 0))) (page_fits hQ.1 (fillP_length 0)) (sizeP hQ.1) (vals_one _) ?_; intro w5 h5 ht5; rw [page_whole hQ.1 (fillP_length 0)] at h5; have hb5 : Below w4.heap.size w4 w5 := ht5.below (below_alloc w4 _) (Nat.le_refl _); have hB5 := bt hB4 hb5; have h6 := h4.kept hb5; clear ht5)
        | (refine wpList_load_mid rfl 29 (.tmp 9) rfl w4.heap.size 0 rfl (vals Q) _ (h5.page hQ.1) Try.underlying29 rfl (sizeP hQ.1) ?_)
        | (refine wpList_load_mid rfl 29 (.tmp 7) rfl w2.heap.size 0 rfl (vals P) _ (h6.page hP.1) Try.underlying29 rfl (sizeP hP.1) ?_))
      go_ret
      exact ⟨rfl, hB5⟩
    | false =>
      have hor := HT.out (by intro e; rw [e] at hqp; simp at hqp)
      rcases hor with ho | ho
      · have HS : Hid (decE Q = 10) := ho
        clear ho
        go_wp2_with (first
          | (refine wpList_store_blk rfl 29 (.tmp 9) (.tmp 22) rfl _ _ (vals Q) rfl rfl (Blk.new w4 29 (vals (fillP 0))) (page_fits hQ.1 (fillP_length 0)) (sizeP hQ.1) (vals_one _) ?_; intro w5 h5 ht5; rw [page_whole hQ.1 (fillP_length 0)] at h5; have hb5 : Below w4.heap.size w4 w5 := ht5.below (below_alloc w4 _) (Nat.le_refl _); have hB5 := bt hB4 hb5; have h6 := h4.kept hb5; clear ht5)
          | (refine wpList_load_mid rfl 29 (.tmp 9) rfl w4.heap.size 0 rfl (vals Q) _ (h5.page hQ.1) Try.underlying29 rfl (sizeP hQ.1) ?_)
          | (refine wpList_load_mid rfl 29 (.tmp 7) rfl w2.heap.size 0 rfl (vals P) _ (h6.page hP.1) Try.underlying29 rfl (sizeP hP.1) ?_)
          | (refine wpList_load_guard (by rfl) 29 (.tmp 9) rfl w4.heap.size 0 rfl (vals Q) _ (h5.page hQ.1) Try.underlying29 rfl (sizeP hQ.1) ?_))
        refine (pstate_any Q hQ _).mono ?_
        rintro e w6 ⟨rfl, hb6⟩
        rw [HS.out]
        have hB6 := bt hB5 hb6
        go_wp2
        go_ret
        exact ⟨rfl, hB6⟩
      · have HS : Hid (decE Q = 11) := ho
        clear ho
        go_wp2_with (first
          | (refine wpList_store_blk rfl 29 (.tmp 9) (.tmp 22) rfl _ _ (vals Q) rfl rfl (Blk.new w4 29 (vals (fillP 0))) (page_fits hQ.1 (fillP_length 0)) (sizeP hQ.1) (vals_one _) ?_; intro w5 h5 ht5; rw [page_whole hQ.1 (fillP_length 0)] at h5; have hb5 : Below w4.heap.size w4 w5 := ht5.below (below_alloc w4 _) (Nat.le_refl _); have hB5 := bt hB4 hb5; have h6 := h4.kept hb5; clear ht5)
          | (refine wpList_load_mid rfl 29 (.tmp 9) rfl w4.heap.size 0 rfl (vals Q) _ (h5.page hQ.1) Try.underlying29 rfl (sizeP hQ.1) ?_)
          | (refine wpList_load_mid rfl 29 (.tmp 7) rfl w2.heap.size 0 rfl (vals P) _ (h6.page hP.1) Try.underlying29 rfl (sizeP hP.1) ?_)
          | (refine wpList_load_guard (by rfl) 29 (.tmp 9) rfl w4.heap.size 0 rfl (vals Q) _ (h5.page hQ.1) Try.underlying29 rfl (sizeP hQ.1) ?_))
        refine (pstate_any Q hQ _).mono ?_
        rintro e w6 ⟨rfl, hb6⟩
        rw [HS.out]
        have hB6 := bt hB5 hb6
        have h7 := h5.kept hb6
        clear h5 h6 hb6 hB5 h4
        go_wp2_with (refine wpList_load_guard (by rfl) 29 (.tmp 9) rfl w4.heap.size 0 rfl (vals Q) _ (h7.page hQ.1) Try.underlying29 rfl (sizeP hQ.1) ?_)
        refine (pstate_any Q hQ _).mono ?_
        rintro e w7 ⟨rfl, hb7⟩
        rw [HS.out]
        have hB7 := bt hB6 hb7
        go_wp2
        go_ret
        exact ⟨rfl, hB7⟩
  · have hen := fun w h => encode_any k g s t p n c data w h
    rw [show encP k g s t data = fillP 0 from by unfold encP; rw [if_neg hE]] at hen
    have hb : (encE k g s t data != 0) = true := by rw [bne_iff_ne]; exact hE
    clear hE
    generalize encE k g s t data = ee at *
    go_enter Try.func7, Try.ntmps7
    go_wp2_with fail
    refine (plive_any _).mono ?_
    rintro e w1 ⟨rfl, hb1⟩
    have hB1 := bt hbel hb1
    have b1 := b0.kept hb1
    clear hbel hb1 b0
    go_wp2_with (refine wpList_load_mid rfl 23 _ rfl w.heap.size 0 rfl [.int .i64 k, .int .i64 g, .int .i64 s, .int .i64 t] _ (b1.range 0 4 _ rfl) Try.underlying23 rfl hdr_size ?_)
    refine (hen _ (hd.below hB1)).mono ?_
    rintro e w2 ⟨rfl, hb2⟩
    have hB2 := bt hB1 hb2
    clear hB1 hb2 b1 hen
    go_wp2_with (refine wpList_store_blk rfl 29 (.tmp 7) (.tmp 16) rfl _ _ (vals (fillP 0)) rfl rfl (Blk.new w2 29 (vals (fillP 0))) (page_fits (fillP_length 0) (fillP_length 0)) (sizeP (fillP_length 0)) (vals_one _) ?_; intro w3 h3 ht3; have hb3 : Below w2.heap.size w2 w3 := ht3.below (below_alloc w2 _) (Nat.le_refl _); have hB3 := bt hB2 hb3; clear hb3 ht3 h3)
    go_ret
    exact ⟨rfl, hB3⟩
set_option maxRecDepth 100000 in
theorem torn_lifted (os : Os) (started : os.Started) (H : Type) (enc : TypeId × Value → H) :
    ReturnsInHanded {} Try.checked os 7 .any (Rows.pageTornSpec.pre6 enc Try.prog Try.f7 Rows.pageTornRow.domain false) (Rows.pageTornSpec.post enc Try.prog Try.f7 false true false false) := by
  refine returnsInHanded_of_change_sized (C := Try.checked) own started (by kernel_rfl) Try.func7
    (ChangeSpec.witness6 (enc := enc) (C := Try.checked) false ⟨#[], #[.agg #[.int .i64 0, .int .i64 0, .int .i64 0, .int .i64 0], .slice none 0 0, .slice none 0 0], []⟩ 8 (by kernel_rfl) (by kernel_rfl) (by kernel_rfl) (by kernel_rfl)) ?_
  intro W base args ds gs before hval0 hW hcnd hsz0 _
  have hval : ∀ (j : Nat) t v, Try.f7.params[j]? = some t → args[j]? = some v → Value.okWide Try.prog W .any base t v := hval0
  have hsz : (DataW.weightsEach Try.prog (Try.f7.params.toList ++ Rows.pageTornSpec.plain.varTypes Try.prog) (ds ++ gs)).all (· ≤ reachBytes) = true := hsz0
  have hW' := hW
  obtain ⟨p, q, hA0, hV, rfl, hfz, hnd⟩ := hW
  have hA : DataW.TrodAll enc Try.prog W 0 (fun _ => true) true Try.f7.params.toList args.toList ds p := hA0
  rw [Try.params7] at hA hval hsz
  obtain ⟨v0, vs0, d0, ds0, p0, q0, hargs, rfl, rfl, h0, r0⟩ := trodAll_cons hA
  obtain ⟨v1, vs1, d1, ds1, p1, q1, rfl, rfl, rfl, h1, r1⟩ := trodAll_cons r0
  obtain ⟨v2, vs2, d2, ds2, p2, q2, rfl, rfl, rfl, h2, r2⟩ := trodAll_cons r1
  obtain ⟨rfl, rfl, rfl⟩ := trodAll_nil r2
  obtain rfl : args = #[v0, v1, v2] := by cases args; simp_all
  obtain ⟨rfl, rfl⟩ := trodVars_none hV
  obtain ⟨k, g, s, t, rfl⟩ := okHdr (hval 0 23 v0 rfl rfl)
  have lt0 : ∀ x ∈ p0, x.block < W.heap.size := by obtain ⟨m, hm⟩ := h0; exact DataW.trod_lt m _ _ _ hm
  obtain ⟨a1, len1, cap1, rfl⟩ := okWide_slice Try.underlying24 (hval 1 24 v1 rfl rfl)
  have lt1 : ∀ x ∈ p1, x.block < W.heap.size := by obtain ⟨m, hm⟩ := h1; exact DataW.trod_lt m _ _ _ hm
  obtain ⟨z1, w1⟩ := opened h1 hsz (j := 1) rfl rfl
  obtain ⟨a2, len2, cap2, rfl⟩ := okWide_slice Try.underlying24 (hval 2 24 v2 rfl rfl)
  have lt2 : ∀ x ∈ p2, x.block < W.heap.size := by obtain ⟨m, hm⟩ := h2; exact DataW.trod_lt m _ _ _ hm
  obtain ⟨z2, w2⟩ := opened h2 hsz (j := 2) rfl rfl
  clear hA0 hval0 hsz0
  refine (torn_walk k g s t a1 a2 len1 cap1 len2 cap2 z1 z2 W w1 w2).mono fun e W' ⟨he, bel⟩ => ?_
  subst he
  exact ⟨_, rfl, _, _, _, [], _, [], hW', trodAll_mk1 (shut_bool Try.underlying4 _), (trodAll_cons_mk (Below.trod laidOut (by kernel_rfl) (of_decide_eq_true (by kernel_rfl)) h0 bel lt0) (trodAll_cons_mk (Below.trod laidOut (by kernel_rfl) (of_decide_eq_true (by kernel_rfl)) h1 bel lt1) (trodAll_cons_mk (Below.trod laidOut (by kernel_rfl) (of_decide_eq_true (by kernel_rfl)) h2 bel lt2) trodAll_mk0))), rfl, bel.frame _, fun h => by cases h⟩
theorem pageTorn_holds : Rows.PageTornSaid :=
  OpenClaim.holds_of_wide 7 Try.f7 rfl rfl rfl rfl rfl rfl rfl ⟨rfl, rfl, rfl, rfl, rfl⟩ rfl rfl rfl rfl rfl (by kernel_rfl) Try.func7 (by kernel_rfl)
    (of_decide_eq_true (by kernel_rfl)) (by unfold Func.isWrapper; first | (rw [if_pos (by decide +kernel)]; kernel_rfl) | (rw [if_neg (by decide +kernel)]; exact ⟨rfl, rfl⟩))
    (fun os started H enc _ => torn_lifted os started H enc)
#print axioms pageTorn_holds
end Go.Proofs.Ytmagcohdhljaeaa
