/-
  For every header h, all data and every page p: the call of PageBack returns true (what is encoded is decoded as it was; what is decoded is encoded to the same page), and all three arguments read afterwards as they read before. No condition.
-/
import Derived.Test.YtmagcohdhljaeaaPgBackP
namespace Go.Proofs.Ytmagcohdhljaeaa
open Go.ChangeShapes Go.WideShapes Go.ChangeAt Go.RowKit
theorem dec_again {P : List Nat} (h : decE P = 0) : agE P = 0 ∧ agP P = P := by
  unfold decE at h
  by_cases hs : stateL P = 0
  · rw [if_pos hs] at h
    cases hd : decOk P with
    | true =>
      unfold decOk at hd
      simpa using hd
    | false => rw [hd] at h; simp at h
  · rw [if_neg hs] at h; exact absurd h hs
set_option maxRecDepth 100000 in
set_option maxHeartbeats 4000000 in
theorem back_walk (k g s t : Int) (p : Option Addr) (n c : Nat) (data P : List Nat) (w : World) (hd : In w p n c data) (hP : IsP P) :
    Calls Try.prog 6 #[.agg #[.int .i64 k, .int .i64 g, .int .i64 s, .int .i64 t], .slice p n c, .agg (vals P).toArray] w fun e w' => e = .returned (.bool true) ∧ Below w.heap.size w w' := by
  have hz := zeroPage
  have b0 := (Blk.new' w 23 #[.int .i64 k, .int .i64 g, .int .i64 s, .int .i64 t]).alloc (.cells (vals P).toArray 29)
  have b1 := Blk.new (w.alloc (.cells #[.int .i64 k, .int .i64 g, .int .i64 s, .int .i64 t] 23)) 29 (vals P)
  rw [World.size_alloc] at b1
  have hbel : Below w.heap.size w ((w.alloc (.cells #[.int .i64 k, .int .i64 g, .int .i64 s, .int .i64 t] 23)).alloc (.cells (vals P).toArray 29)) := (below_alloc w _).alloc (by simp) _
  by_cases hE : encE k g s t data = 0
  · have hB := back hE
    have hQ := (encP_isP k g s t (encE_ok hE).2 hd.byte)
    have hn := (encE_ok hE).2
    rw [hd.len] at hn
    have hen := fun w h => encode_any k g s t p n c data w h
    rw [hE] at hen
    clear hE
    generalize encP k g s t data = Q at *
    obtain ⟨y0, y1, y2, y3, y4, y5⟩ := hB
    have HD : Hid (decE Q = 0) := y0
    have HV : Hid (hv0 Q = k ∧ hv1 Q = g ∧ hv2 Q = s ∧ hv3 Q = t) := ⟨y1, y2, y3, y4⟩
    have HF : Hid (Q.take 256 = fillD data) := y5
    clear y0 y1 y2 y3 y4 y5
    go_enter Try.func6, Try.ntmps6
    go_wp2_with fail
    refine (plive_any _).mono ?_
    rintro e w1 ⟨rfl, hb1⟩
    have hB1 := bt hbel hb1
    have b2 := b0.kept hb1
    have b3 := b1.kept hb1
    clear hbel hb1 b0 b1
    go_wp2_with (refine wpList_load_mid rfl 23 _ rfl w.heap.size 0 rfl [.int .i64 k, .int .i64 g, .int .i64 s, .int .i64 t] _ (b2.range 0 4 _ rfl) Try.underlying23 rfl hdr_size ?_)
    refine (hen _ (hd.below hB1)).mono ?_
    rintro e w2 ⟨rfl, hb2⟩
    have hB2 := bt hB1 hb2
    have b4 := b2.kept hb2
    have b5 := b3.kept hb2
    clear hB1 hb2 b2 b3 hen
    go_wp2_with (first
      | (refine wpList_store_blk rfl 29 (.tmp 7) (.tmp 23) rfl _ _ (vals Q) rfl rfl (Blk.new w2 29 (vals (fillP 0))) (page_fits hQ.1 (fillP_length 0)) (sizeP hQ.1) (vals_one _) ?_; intro w3 h3 ht3; rw [page_whole hQ.1 (fillP_length 0)] at h3; have hb3 : Below w2.heap.size w2 w3 := ht3.below (below_alloc w2 _) (Nat.le_refl _); have hB3 := bt hB2 hb3; have b6 := b4.kept hb3; have b7 := b5.kept hb3; clear hb3 ht3)
      | (refine wpList_load_mid rfl 29 (.tmp 7) rfl w2.heap.size 0 rfl (vals Q) _ (h3.page hQ.1) Try.underlying29 rfl (sizeP hQ.1) ?_))
    refine (decode_any Q hQ _).mono ?_
    rintro e w4 ⟨⟨hne, _⟩ | ⟨_, p4, c4, rfl, hin4⟩, hb4⟩
    · exact absurd HD.out hne
    rw [HV.out.1, HV.out.2.1, HV.out.2.2.1, HV.out.2.2.2]
    rw [HF.out] at hin4
    have hB4 := bt hB3 hb4
    have b8 := b6.kept hb4
    have b9 := b7.kept hb4
    clear hB2 hB3 hb4 b4 b5 b6 b7 h3
    go_wp2_with fail
    have hb5' := below_alloc w4 (.cells #[.int .i64 k, .int .i64 g, .int .i64 s, .int .i64 t] 23)
    have c0 := b8.alloc (.cells #[.int .i64 k, .int .i64 g, .int .i64 s, .int .i64 t] 23)
    have c1 := b9.alloc (.cells #[.int .i64 k, .int .i64 g, .int .i64 s, .int .i64 t] 23)
    have c2 := Blk.new' w4 23 #[.int .i64 k, .int .i64 g, .int .i64 s, .int .i64 t]
    have hin5 := hin4.below hb5'
    have hd5 := (hd.below hB4).below hb5'
    have hB5 := bt hB4 hb5'
    clear b8 b9 hin4 hB4 hb5'
    generalize w4.alloc (.cells #[.int .i64 k, .int .i64 g, .int .i64 s, .int .i64 t] 23) = W at *
    refine (clone_owns p n c data _ hd5).mono ?_
    rintro e w5 ⟨v5, rfl, hown5, hb5⟩
    obtain ⟨p5, c5, rfl⟩ := owns_slice hown5
    obtain ⟨v6, w6, hr6, hown6, hg6⟩ := append_zeros hown5 (256 - n) (by omega) hb5.size
    rw [show ((256 - n : Nat) : Int) = 256 - (n : Int) from by omega] at hr6
    have hl : data.length = n := hd.len
    rw [show n + (256 - n) = 256 from by omega, show data ++ List.replicate (256 - n) 0 = fillD data from by unfold fillD; rw [hl]] at hown6
    obtain ⟨p6, c6, rfl, hin6⟩ := in_of_owns hown6 (fillD_byte hd.byte) (by omega)
    have hb56 : Below W.heap.size W w6 := hb5.grown hg6 hb5.size (fun j hj => (hown5.lt j hj).1)
    have hB6 := bt hB5 hb56
    have d0 := c0.kept hb56
    have d1 := c1.kept hb56
    have d2 := c2.kept hb56
    have hin7 := hin5.below hb56
    clear hl hown5 hown6 hg6 hb5 hb56 c0 c1 c2 hin5 hd5 hB5
    go_wp2_with (first
      | (at_builtin; refine Lib.wpList_append_run _ rfl (.tmp 34) (.tmp 37) 24 3 rfl _ _ rfl rfl _ w6 hr6 ?_)
      | (refine wpList_load_guard (by rfl) 23 (.tmp 9) rfl w4.heap.size 0 rfl [.int .i64 k, .int .i64 g, .int .i64 s, .int .i64 t] _ (d2.range 0 4 _ rfl) Try.underlying23 rfl hdr_size ?_)
      | (refine wpList_load_guard (by rfl) 23 (.tmp 3) rfl w.heap.size 0 rfl [.int .i64 k, .int .i64 g, .int .i64 s, .int .i64 t] _ (d0.range 0 4 _ rfl) Try.underlying23 rfl hdr_size ?_))
    refine (equal_any p4 p6 256 c4 256 c6 (fillD data) (fillD data) _ hin7 hin6).mono ?_
    rintro e w8 ⟨rfl, hw8⟩
    rw [show (fillD data == fillD data) = true from by simp]
    have hw9 := hw8.symm
    subst hw9
    clear hw8 hin6 hin7 hr6 d2 d0
    go_wp2_with (refine wpList_load_mid rfl 29 (.tmp 5) rfl (w.heap.size + 1) 0 rfl (vals P) _ (d1.page hP.1) Try.underlying29 rfl (sizeP hP.1) ?_)
    refine (decode_any P hP _).mono ?_
    rintro e w14 ⟨⟨hne, rfl⟩ | ⟨hde, p14, c14, rfl, hin14⟩, hb14⟩
    · have hB14 := bt hB6 hb14
      have hbn : (decE P != 0) = true := by rw [bne_iff_ne]; exact hne
      clear hne
      generalize decE P = de at *
      go_wp2
      go_ret
      exact ⟨rfl, bt hB14 (below_alloc _ _)⟩
    · have hB14 := bt hB6 hb14
      have b14 := d1.kept hb14
      obtain ⟨a1, a2⟩ := dec_again hde
      have hen2 := fun w h => encode_any (hv0 P) (hv1 P) (hv2 P) (hv3 P) p14 256 c14 (P.take 256) w h
      change ∀ w, In w p14 256 c14 (P.take 256) → Calls Try.prog 10 #[.agg #[.int .i64 (hv0 P), .int .i64 (hv1 P), .int .i64 (hv2 P), .int .i64 (hv3 P)], .slice p14 256 c14] w (fun e w' => e = .returned (.tuple #[.agg (vals (agP P)).toArray, .int .i64 (agE P)]) ∧ Below w.heap.size w w') at hen2
      rw [a1, a2] at hen2
      clear a1 a2 hde
      generalize hv0 P = k0 at *
      generalize hv1 P = k1 at *
      generalize hv2 P = k2 at *
      generalize hv3 P = k3 at *
      have hq := fun W => run_equalIn_page W P P hP.1 hP.1
      rw [show (P == P) = true from by simp] at hq
      have b15 := b14.alloc (.cells #[.int .i64 k0, .int .i64 k1, .int .i64 k2, .int .i64 k3] 23)
      have hin15 := hin14.below (below_alloc w14 (.cells #[.int .i64 k0, .int .i64 k1, .int .i64 k2, .int .i64 k3] 23))
      have hB15 := bt hB14 (below_alloc w14 (.cells #[.int .i64 k0, .int .i64 k1, .int .i64 k2, .int .i64 k3] 23))
      have h15 := Blk.new' w14 23 #[.int .i64 k0, .int .i64 k1, .int .i64 k2, .int .i64 k3]
      go_wp2_with (refine wpList_load_mid rfl 23 (.tmp 13) rfl w14.heap.size 0 rfl [.int .i64 k0, .int .i64 k1, .int .i64 k2, .int .i64 k3] _ (h15.range 0 4 _ rfl) Try.underlying23 rfl hdr_size ?_)
      refine (hen2 _ hin15).mono ?_
      rintro e w16 ⟨rfl, hb16⟩
      have hB16 := bt hB15 hb16
      have b16 := b15.kept hb16
      have hl16 := b16.lt
      clear hB14 hB15 hb16 b14 b15 hen2 hin14 hin15 h15
      go_wp2_with (first
        | (refine wpList_store_blk rfl 29 (.tmp 16) (.tmp 64) rfl _ _ (vals P) rfl rfl (Blk.new w16 29 (vals (fillP 0))) (page_fits hP.1 (fillP_length 0)) (sizeP hP.1) (vals_one _) ?_; intro w17 h17 ht17; rw [page_whole hP.1 (fillP_length 0)] at h17; have hb17 : Below w16.heap.size w16 w17 := ht17.below (below_alloc w16 _) (Nat.le_refl _); have hB17 := bt hB16 hb17; have b17 := b16.kept hb17; clear hb17 ht17)
        | (refine wpList_load_guard (by rfl) 29 (.tmp 16) rfl w16.heap.size 0 rfl (vals P) _ (h17.page hP.1) Try.underlying29 rfl (sizeP hP.1) ?_)
        | (refine wpList_load_guard (by rfl) 29 (.tmp 5) rfl (w.heap.size + 1) 0 rfl (vals P) _ (b17.page hP.1) Try.underlying29 rfl (sizeP hP.1) ?_))
      go_ret
      exact ⟨rfl, hB17⟩
  · have hen := fun w h => encode_any k g s t p n c data w h
    rw [show encP k g s t data = fillP 0 from by unfold encP; rw [if_neg hE]] at hen
    have hb : (encE k g s t data == 0) = false := beq_eq_false_iff_ne.2 hE
    clear hE
    generalize encE k g s t data = ee at *
    go_enter Try.func6, Try.ntmps6
    go_wp2_with fail
    refine (plive_any _).mono ?_
    rintro e w1 ⟨rfl, hb1⟩
    have hB1 := bt hbel hb1
    have b2 := b0.kept hb1
    have b3 := b1.kept hb1
    clear hbel hb1 b0 b1
    go_wp2_with (refine wpList_load_mid rfl 23 (.tmp 3) rfl w.heap.size 0 rfl [.int .i64 k, .int .i64 g, .int .i64 s, .int .i64 t] _ (b2.range 0 4 _ rfl) Try.underlying23 rfl hdr_size ?_)
    refine (hen _ (hd.below hB1)).mono ?_
    rintro e w2 ⟨rfl, hb2⟩
    have hB2 := bt hB1 hb2
    have b5 := b3.kept hb2
    clear hB1 hb2 b2 b3 hen
    go_wp2_with (first
      | (refine wpList_store_blk rfl 29 (.tmp 7) (.tmp 23) rfl _ _ (vals (fillP 0)) rfl rfl (Blk.new w2 29 (vals (fillP 0))) (page_fits (fillP_length 0) (fillP_length 0)) (sizeP (fillP_length 0)) (vals_one _) ?_; intro w3 h3 ht3; have hb3 : Below w2.heap.size w2 w3 := ht3.below (below_alloc w2 _) (Nat.le_refl _); have hB3 := bt hB2 hb3; have b7 := b5.kept hb3; clear hb3 ht3 h3)
      | (refine wpList_load_mid rfl 29 (.tmp 5) rfl (w.heap.size + 1) 0 rfl (vals P) _ (b7.page hP.1) Try.underlying29 rfl (sizeP hP.1) ?_))
    refine (decode_any P hP _).mono ?_
    rintro e w14 ⟨⟨hne, rfl⟩ | ⟨hde, p14, c14, rfl, hin14⟩, hb14⟩
    · have hB14 := bt hB3 hb14
      have hbn : (decE P != 0) = true := by rw [bne_iff_ne]; exact hne
      clear hne
      generalize decE P = de at *
      go_wp2
      go_ret
      exact ⟨rfl, bt hB14 (below_alloc _ _)⟩
    · have hB14 := bt hB3 hb14
      have b14 := b7.kept hb14
      obtain ⟨a1, a2⟩ := dec_again hde
      have hen2 := fun w h => encode_any (hv0 P) (hv1 P) (hv2 P) (hv3 P) p14 256 c14 (P.take 256) w h
      change ∀ w, In w p14 256 c14 (P.take 256) → Calls Try.prog 10 #[.agg #[.int .i64 (hv0 P), .int .i64 (hv1 P), .int .i64 (hv2 P), .int .i64 (hv3 P)], .slice p14 256 c14] w (fun e w' => e = .returned (.tuple #[.agg (vals (agP P)).toArray, .int .i64 (agE P)]) ∧ Below w.heap.size w w') at hen2
      rw [a1, a2] at hen2
      clear a1 a2 hde
      generalize hv0 P = k0 at *
      generalize hv1 P = k1 at *
      generalize hv2 P = k2 at *
      generalize hv3 P = k3 at *
      have hq := fun W => run_equalIn_page W P P hP.1 hP.1
      rw [show (P == P) = true from by simp] at hq
      have b15 := b14.alloc (.cells #[.int .i64 k0, .int .i64 k1, .int .i64 k2, .int .i64 k3] 23)
      have hin15 := hin14.below (below_alloc w14 (.cells #[.int .i64 k0, .int .i64 k1, .int .i64 k2, .int .i64 k3] 23))
      have hB15 := bt hB14 (below_alloc w14 (.cells #[.int .i64 k0, .int .i64 k1, .int .i64 k2, .int .i64 k3] 23))
      have h15 := Blk.new' w14 23 #[.int .i64 k0, .int .i64 k1, .int .i64 k2, .int .i64 k3]
      go_wp2_with (refine wpList_load_mid rfl 23 (.tmp 13) rfl w14.heap.size 0 rfl [.int .i64 k0, .int .i64 k1, .int .i64 k2, .int .i64 k3] _ (h15.range 0 4 _ rfl) Try.underlying23 rfl hdr_size ?_)
      refine (hen2 _ hin15).mono ?_
      rintro e w16 ⟨rfl, hb16⟩
      have hB16 := bt hB15 hb16
      have b16 := b15.kept hb16
      have hl16 := b16.lt
      clear hB14 hB15 hb16 b14 b15 hen2 hin14 hin15 h15
      go_wp2_with (first
        | (refine wpList_store_blk rfl 29 (.tmp 16) (.tmp 64) rfl _ _ (vals P) rfl rfl (Blk.new w16 29 (vals (fillP 0))) (page_fits hP.1 (fillP_length 0)) (sizeP hP.1) (vals_one _) ?_; intro w17 h17 ht17; rw [page_whole hP.1 (fillP_length 0)] at h17; have hb17 : Below w16.heap.size w16 w17 := ht17.below (below_alloc w16 _) (Nat.le_refl _); have hB17 := bt hB16 hb17; have b17 := b16.kept hb17; clear hb17 ht17)
        | (refine wpList_load_guard (by rfl) 29 (.tmp 16) rfl w16.heap.size 0 rfl (vals P) _ (h17.page hP.1) Try.underlying29 rfl (sizeP hP.1) ?_)
        | (refine wpList_load_guard (by rfl) 29 (.tmp 5) rfl (w.heap.size + 1) 0 rfl (vals P) _ (b17.page hP.1) Try.underlying29 rfl (sizeP hP.1) ?_))
      go_ret
      exact ⟨rfl, hB17⟩
set_option maxRecDepth 100000 in
theorem back_lifted (os : Os) (started : os.Started) (H : Type) (enc : TypeId × Value → H) :
    ReturnsInHanded {} Try.checked os 6 .any (Rows.pageBackSpec.pre6 enc Try.prog Try.f6 Rows.pageBackRow.domain false) (Rows.pageBackSpec.post enc Try.prog Try.f6 false true false false) := by
  refine returnsInHanded_of_change_sized (C := Try.checked) own started (by kernel_rfl) Try.func6
    (ChangeSpec.witness6 (enc := enc) (C := Try.checked) false ⟨#[], #[.agg #[.int .i64 0, .int .i64 0, .int .i64 0, .int .i64 0], .slice none 0 0, .agg (vals (fillP 0)).toArray], []⟩ 8 (by kernel_rfl) (by kernel_rfl) (by kernel_rfl) (by kernel_rfl)) ?_
  intro W base args ds gs before hval0 hW hcnd hsz0 _
  have hval : ∀ (j : Nat) t v, Try.f6.params[j]? = some t → args[j]? = some v → Value.okWide Try.prog W .any base t v := hval0
  have hsz : (DataW.weightsEach Try.prog (Try.f6.params.toList ++ Rows.pageBackSpec.plain.varTypes Try.prog) (ds ++ gs)).all (· ≤ reachBytes) = true := hsz0
  have hW' := hW
  obtain ⟨p, q, hA0, hV, rfl, hfz, hnd⟩ := hW
  have hA : DataW.TrodAll enc Try.prog W 0 (fun _ => true) true Try.f6.params.toList args.toList ds p := hA0
  rw [Try.params6] at hA hval hsz
  obtain ⟨v0, vs0, d0, ds0, p0, q0, hargs, rfl, rfl, h0, r0⟩ := trodAll_cons hA
  obtain ⟨v1, vs1, d1, ds1, p1, q1, rfl, rfl, rfl, h1, r1⟩ := trodAll_cons r0
  obtain ⟨v2, vs2, d2, ds2, p2, q2, rfl, rfl, rfl, h2, r2⟩ := trodAll_cons r1
  obtain ⟨rfl, rfl, rfl⟩ := trodAll_nil r2
  obtain rfl : args = #[v0, v1, v2] := by cases args; simp_all
  obtain ⟨rfl, rfl⟩ := trodVars_none hV
  obtain ⟨k, g, s, t, rfl⟩ := okHdr (hval 0 23 v0 rfl rfl)
  have lt0 : ∀ x ∈ p0, x.block < W.heap.size := by obtain ⟨m, hm⟩ := h0; exact DataW.trod_lt m _ _ _ hm
  obtain ⟨a1, len1, cap1, rfl⟩ := okWide_slice Try.underlying24 (hval 1 24 v1 rfl rfl)
  have lt1 : ∀ x ∈ p1, x.block < W.heap.size := by obtain ⟨m, hm⟩ := h1; exact DataW.trod_lt m _ _ _ hm
  obtain ⟨z1, w1⟩ := opened h1 hsz (j := 1) rfl rfl
  obtain ⟨P, hP, rfl⟩ := okPage (hval 2 29 v2 rfl rfl)
  have lt2 : ∀ x ∈ p2, x.block < W.heap.size := by obtain ⟨m, hm⟩ := h2; exact DataW.trod_lt m _ _ _ hm
  clear hA0 hval0 hsz0
  refine (back_walk k g s t a1 len1 cap1 z1 P W w1 hP).mono fun e W' ⟨he, bel⟩ => ?_
  subst he
  exact ⟨_, rfl, _, _, _, [], _, [], hW', trodAll_mk1 (shut_bool Try.underlying4 _), (trodAll_cons_mk (Below.trod laidOut (by kernel_rfl) (of_decide_eq_true (by kernel_rfl)) h0 bel lt0) (trodAll_cons_mk (Below.trod laidOut (by kernel_rfl) (of_decide_eq_true (by kernel_rfl)) h1 bel lt1) (trodAll_cons_mk (Below.trod laidOut (by kernel_rfl) (of_decide_eq_true (by kernel_rfl)) h2 bel lt2) trodAll_mk0))), rfl, bel.frame _, fun h => by cases h⟩
theorem pageBack_holds : Rows.PageBackSaid :=
  OpenClaim.holds_of_wide 6 Try.f6 rfl rfl rfl rfl rfl rfl rfl ⟨rfl, rfl, rfl, rfl, rfl⟩ rfl rfl rfl rfl rfl (by kernel_rfl) Try.func6 (by kernel_rfl)
    (of_decide_eq_true (by kernel_rfl)) (by unfold Func.isWrapper; first | (rw [if_pos (by decide +kernel)]; kernel_rfl) | (rw [if_neg (by decide +kernel)]; exact ⟨rfl, rfl⟩))
    (fun os started H enc _ => back_lifted os started H enc)
#print axioms pageBack_holds
end Go.Proofs.Ytmagcohdhljaeaa
