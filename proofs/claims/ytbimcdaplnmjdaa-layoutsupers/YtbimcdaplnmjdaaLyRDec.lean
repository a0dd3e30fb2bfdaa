/-
  What the reference's DecodeSuper answers.
-/
import Derived.Test.YtbimcdaplnmjdaaLyDec
import Derived.Test.YtbimcdaplnmjdaaLyREnc
import Derived.Test.YtbimcdaplnmjdaaRefOpen
import Derived.Test.YtbimcdaplnmjdaaRefUnpack
namespace Go.Proofs.Ytbimcdaplnmjdaa
open Go.RowKit
theorem sealed_state {xs : List Nat} (hm : xs.length ≤ 1048576) : stateL (xs ++ cnt xs) = 0 := by
  have hz := zeros_le xs
  have hne : erasedL (xs ++ cnt xs) = false := by
    cases h : erasedL (xs ++ cnt xs) with
    | false => rfl
    | true =>
      unfold erasedL at h
      simp only [Bool.and_eq_true] at h
      have := (all_iff _).1 h.2 xs.length (by rw [List.length_append, cnt_length]; omega)
      rw [show (xs ++ cnt xs).getD xs.length 0 = zeros xs / 16777216 % 256 from by simp [cnt, cntZ]] at this
      omega
  have hl : (xs ++ cnt xs).length = xs.length + 4 := by rw [List.length_append, cnt_length]
  unfold stateL
  rw [hne, hl, show xs.length + 4 - 4 = xs.length from by omega, List.drop_left' rfl, List.take_left' rfl]
  simp
  omega
theorem decOk_facts {xs : List Nat} (h : decOk xs = true) : xs.length = 256 ∧ supE (rdB xs) (rdJ xs) (rdO xs) (rdM xs) = 0 ∧ supL (rdB xs) (rdJ xs) (rdO xs) (rdC xs) (rdM xs) = xs := by
  unfold decOk at h
  simp only [Bool.and_eq_true, beq_iff_eq] at h
  exact ⟨h.1.1, h.1.2, h.2⟩
theorem supL_seal {b j o m : Int} {cl : Bool} (h : supE b j o m = 0) : ∃ ys, ys.length = 252 ∧ supL b j o cl m = ys ++ cnt ys := by
  obtain ⟨h1, h2, h3, h4, h5⟩ := supE_zero h
  obtain ⟨g1, g2, g3, g4, -⟩ := okS_iff.1 h1
  have hg := gN_rng g1 g2
  have hl := supB_length (b := b.toNat) (j := j.toNat) (o := o.toNat) (m := m.toNat) cl (by omega) (by omega) (by omega) (by omega)
  refine ⟨_, hl, ?_⟩
  rw [supL_ok h]
  unfold sealL
  rw [hl]
  rfl
theorem decOk_state {xs : List Nat} (h : decOk xs = true) : stateL xs = 0 ∧ (openL xs).length = 252 ∧ fS xs 5 ≤ 1152921504606846976 := by
  obtain ⟨h1, h2, h3⟩ := decOk_facts h
  obtain ⟨ys, hy, e⟩ := supL_seal (cl := rdC xs) h2
  rw [h3] at e
  have hs : stateL xs = 0 := by rw [e]; exact sealed_state (by omega)
  refine ⟨hs, ?_, ?_⟩
  · unfold openL
    rw [if_pos hs, List.length_take, h1]; rfl
  · have hm := supE_zero h2
    have hf := (fS_lt xs).2.2.2.2
    unfold rdM at hm
    rw [IntKind.wrap_i64] at hm
    omega
theorem alloc5 {w : World} {o : Obj} {b k : Nat} {v1 v2 v3 v4 v5 : Value} (hb : b < w.heap.size) (h : w.cell? ⟨b, k + 1, none⟩ = some v1 ∧ w.cell? ⟨b, k + 2, none⟩ = some v2 ∧ w.cell? ⟨b, k + 3, none⟩ = some v3 ∧ w.cell? ⟨b, k + 4, none⟩ = some v4 ∧ w.cell? ⟨b, k + 5, none⟩ = some v5) :
    (w.drew.alloc o).cell? ⟨b, k + 1, none⟩ = some v1 ∧ (w.drew.alloc o).cell? ⟨b, k + 2, none⟩ = some v2 ∧ (w.drew.alloc o).cell? ⟨b, k + 3, none⟩ = some v3 ∧ (w.drew.alloc o).cell? ⟨b, k + 4, none⟩ = some v4 ∧ (w.drew.alloc o).cell? ⟨b, k + 5, none⟩ = some v5 := by
  have hk := fun j => (below_alloc w.drew o).cell (p := ⟨b, j, none⟩) hb
  exact ⟨(hk _).trans h.1, (hk _).trans h.2.1, (hk _).trans h.2.2.1, (hk _).trans h.2.2.2.1, (hk _).trans h.2.2.2.2⟩
set_option linter.unusedSimpArgs false in
set_option maxHeartbeats 16000000 in
set_option maxRecDepth 100000 in
theorem rdecodeSuper_any (p : Option Addr) (n c : Nat) (xs : List Nat) (w : World) (hx : In w p n c xs) :
    Calls Try.prog 35 #[.slice p n c] w fun e w' => e = .returned (.tuple #[.agg (decV xs), .int .i64 (decE xs)]) ∧ Below w.heap.size w w' := by
  have hb0 := below_alloc w (.cells #[.int .i64 0, .int .i64 0, .int .i64 0, .bool false, .int .i64 0] 43)
  have r0 := Blk.new' w 43 #[.int .i64 0, .int .i64 0, .int .i64 0, .bool false, .int .i64 0]
  have hx0 := hx.below hb0
  have HL : Hid (xs.length = n) := hx.len
  by_cases hst : stateL xs = 0
  · by_cases ho : (openL xs).length = 252
    · have hxl : xs.length = 256 := by
        unfold openL at ho
        rw [if_pos hst, List.length_take] at ho
        have := state_okL hst
        omega
      have HT : Hid ((openL xs).take 23 = xs.take 23) := by
        show _ = _
        unfold openL
        rw [if_pos hst, List.take_take, hxl]; rfl
      have HO : Hid (stateL xs = 0) := hst
      have hf := fS_lt xs
      have hv := fS_vals (xs := xs) (by omega)
      have hu := unpS_length (xs := xs) (by omega)
      rw [← HT.out] at hv hu
      have V1 : Hid _ := hv 1 (by decide)
      have V2 : Hid _ := hv 2 (by decide)
      have V3 : Hid _ := hv 3 (by decide)
      have V4 : Hid _ := hv 4 (by decide)
      have V5 : Hid _ := hv 5 (by decide)
      have HOL : Hid ((openL xs).length = 252) := ho
      have HU : Hid _ := hu
      by_cases h60 : 1152921504606846976 < fS xs 5
      · have hok : decOk xs = false := by
          cases hq : decOk xs with
          | false => rfl
          | true => have := (decOk_state hq).2.2; omega
        rw [(dec_no hok).1, (dec_no hok).2]
        clear hok hv hu hst ho hxl
        generalize fS xs 5 = f5 at *
        go_enter Try.func35, Try.ntmps35
        go_upto_region 4 with (first
          | (go_at_call 62; refine (refOpen_any p n c xs _ hx0).mono ?_; rintro e w1 ⟨p1, n1, c1, rfl, hin1, hb1⟩; have r1 := r0.kept hb1; have hB1 := bt hb0 hb1; rw [HO.out]; have hn1 := hin1.len; rw [HOL.out] at hn1; subst hn1))
        have hc23 : (23 : Int) ≤ (c1 : Int) := by have := hin1.cap; omega
        have hf1 := hin1.front 23 (by decide)
        refine wp_region_noPanic ?_
        refine wp_region_held_drew (S := fun X => Below w1.heap.size w1 X) (by kernel_rfl) ((Below.refl _ _).drew) (fun hHeld => ?_)
        refine wpAnyH_take (i := 1) (v := ?_) rfl (by kernel_rfl) (by kernel_rfl) (by kernel_rfl) (fun _ _ _ h => h) (Or.inl ⟨by kernel_rfl, ?_⟩) hHeld ?_
        rotate_left
        · intro w' hSw; try dsimp only at hSw
          go_simp; try (with_reducible rfl)
        try simp only [Act.put, List.getElem_toArray, List.getElem_cons_succ, List.getElem_cons_zero, List.setIfInBounds_toArray, List.set_cons_zero, List.set_cons_succ]
        refine wpAnyH_take (i := 2) (v := ?_) rfl (by kernel_rfl) (by kernel_rfl) (by kernel_rfl) (fun _ _ _ h => h) (Or.inl ⟨by kernel_rfl, ?_⟩) hHeld ?_
        rotate_left
        · intro w' hSw; try dsimp only at hSw
          go_simp; try (with_reducible rfl)
        try simp only [Act.put, List.getElem_toArray, List.getElem_cons_succ, List.getElem_cons_zero, List.setIfInBounds_toArray, List.set_cons_zero, List.set_cons_succ]
        refine wpAnyH_ready (rs := [0]) (by kernel_rfl) (by simp) ?_
        refine AllReadyH.cons rfl (fun K hK => ?_) AllReadyH.nil
        go_simp
        refine (rsuperW_any _).mono ?_
        rintro e w2 ⟨p2, rfl, hin2, hb2⟩
        have hS2 := bt hHeld hb2
        refine hK.out _ _ hS2 (fun hHeld => ?_)
        clear hK K
        try simp only [Act.put, List.getElem_toArray, List.getElem_cons_succ, List.getElem_cons_zero, List.setIfInBounds_toArray, List.set_cons_zero, List.set_cons_succ]
        refine wpAnyH_ready (rs := [3]) (by kernel_rfl) (by simp) ?_
        refine AllReadyH.cons rfl (fun K hK => ?_) AllReadyH.nil
        go_simp
        refine (refUnpack_any p2 p1 6 6 23 c1 wsS ((openL xs).take 23) _ hin2 (hf1.below hHeld)).mono ?_
        rintro e w3 ⟨p3, n3, c3, rfl, hin3, hb3⟩
        have hS3 := bt hHeld hb3
        refine hK.out _ _ hS3 (fun hHeld => ?_)
        clear hK K
        try simp only [Act.put, List.getElem_toArray, List.getElem_cons_succ, List.getElem_cons_zero, List.setIfInBounds_toArray, List.set_cons_zero, List.set_cons_succ]
        refine wpAnyH_take (i := 4) (v := ?_) rfl (by kernel_rfl) (by kernel_rfl) (by kernel_rfl) (fun _ _ _ h => h) (Or.inl ⟨by kernel_rfl, ?_⟩) hHeld ?_
        rotate_left
        · intro w' hSw; try dsimp only at hSw
          go_simp; try (with_reducible rfl)
        try simp only [Act.put, List.getElem_toArray, List.getElem_cons_succ, List.getElem_cons_zero, List.setIfInBounds_toArray, List.set_cons_zero, List.set_cons_succ]
        refine wpAnyH_take (i := 5) (v := ?_) rfl (by kernel_rfl) (by kernel_rfl) (by kernel_rfl) (fun _ _ _ h => h) (Or.inl ⟨by kernel_rfl, ?_⟩) hHeld ?_
        rotate_left
        · intro w' hSw; try dsimp only at hSw
          go_simp; try (with_reducible rfl)
        try simp only [Act.put, List.getElem_toArray, List.getElem_cons_succ, List.getElem_cons_zero, List.setIfInBounds_toArray, List.set_cons_zero, List.set_cons_succ]
        refine wpAnyH_take (i := 6) (v := ?_) rfl (by kernel_rfl) (by kernel_rfl) (by kernel_rfl) (fun _ _ _ h => h) (Or.inl ⟨by kernel_rfl, ?_⟩) hHeld ?_
        rotate_left
        · intro w' hSw; try dsimp only at hSw
          go_simp; try (with_reducible rfl)
        try simp only [Act.put, List.getElem_toArray, List.getElem_cons_succ, List.getElem_cons_zero, List.setIfInBounds_toArray, List.set_cons_zero, List.set_cons_succ]
        refine wpAnyH_take (i := 7) (v := ?_) rfl (by kernel_rfl) (by kernel_rfl) (by kernel_rfl) (fun _ _ _ h => h) (Or.inl ⟨by kernel_rfl, ?_⟩) hHeld ?_
        rotate_left
        · intro w' hSw; try dsimp only at hSw
          go_simp; try (with_reducible rfl)
        try simp only [Act.put, List.getElem_toArray, List.getElem_cons_succ, List.getElem_cons_zero, List.setIfInBounds_toArray, List.set_cons_zero, List.set_cons_succ]
        refine wpAnyH_take (i := 8) (v := ?_) rfl (by kernel_rfl) (by kernel_rfl) (by kernel_rfl) (fun _ _ _ h => h) (Or.inl ⟨by kernel_rfl, ?_⟩) hHeld ?_
        rotate_left
        · intro w' hSw; try dsimp only at hSw
          go_simp; try (with_reducible rfl)
        try simp only [Act.put, List.getElem_toArray, List.getElem_cons_succ, List.getElem_cons_zero, List.setIfInBounds_toArray, List.set_cons_zero, List.set_cons_succ]
        refine wpAnyH_done (by kernel_rfl) ?_ _
        refine NoPanic.normal ?_
        have hn3 := hin3.len
        rw [HU.out] at hn3
        subst hn3
        obtain ⟨b5, o5, rfl, hb5, hc5⟩ := hin3.at' (by decide)
        have hcap := hin3.cap
        have d5 := hc5 5 (by decide)
        unfold el at d5
        rw [V5.out] at d5
        have r3 := r1.kept hS3
        have hB3 := bt hB1 hS3
        have h60i : (1152921504606846976 : Int) < (f5 : Int) := by omega
        clear hc5 hin3 hf1 hc23 hin2 hb2 hb3 hS2 hS3 hHeld h60
        go_wp2_with (refine wpList_store_blk rfl 43 (.tmp 2) (.tmp 34) rfl _ 0 [.int .i64 0, .int .i64 0, .int .i64 0, .bool false, .int .i64 0] rfl rfl r3 (by simp) size_super one5 ?_; intro w8 b8 t8)
        refine ret_superE rfl rfl b8 rfl rfl ⟨rfl, t8.below hB3 (Nat.le_refl _)⟩
      · have hrM : rdM xs = (fS xs 5 : Int) := by unfold rdM; exact wrapI _ (by omega)
        have hen := fun w => rencodeSuper_any (rdB xs) (rdJ xs) (rdO xs) (rdC xs) (rdM xs) w
        have HDE : Hid (supE (rdB xs) (rdJ xs) (rdO xs) (rdM xs) = 0 → supL (rdB xs) (rdJ xs) (rdO xs) (rdC xs) (rdM xs) = xs → decE xs = 0 ∧ decV xs = #[.int .i64 (rdB xs), .int .i64 (rdJ xs), .int .i64 (rdO xs), .bool (rdC xs), .int .i64 (rdM xs)]) := by
          intro e1 e2
          exact dec_ok (by unfold decOk; rw [hxl, e1, e2]; simp)
        have HDN : Hid (¬ (supE (rdB xs) (rdJ xs) (rdO xs) (rdM xs) = 0 ∧ supL (rdB xs) (rdJ xs) (rdO xs) (rdC xs) (rdM xs) = xs) → decE xs = 111 ∧ decV xs = #[.int .i64 0, .int .i64 0, .int .i64 0, .bool false, .int .i64 0]) := by
          intro hh
          refine dec_no ?_
          cases hq : decOk xs with
          | false => rfl
          | true => exact absurd (decOk_facts hq).2 hh
        have HBY : Hid (∀ x ∈ supL (rdB xs) (rdJ xs) (rdO xs) (rdC xs) (rdM xs), x < 256) := by
          intro x hx
          by_cases he : supE (rdB xs) (rdJ xs) (rdO xs) (rdM xs) = 0
          · rw [supL_ok he] at hx
            unfold sealL at hx
            split at hx
            · simp at hx
            · rcases List.mem_append.1 hx with h | h
              · exact supB_byte _ _ _ _ _ x h
              · exact cntZ_byte _ x h
          · rw [supL_no he] at hx; simp at hx
        rw [hrM] at hen HDE HDN HBY
        unfold rdB rdJ rdO rdC at hen HDE HDN HBY
        generalize fS xs 1 = f1 at *
        generalize fS xs 2 = f2 at *
        generalize fS xs 3 = f3 at *
        generalize fS xs 4 = f4 at *
        generalize fS xs 5 = f5 at *
        have hv1 : IntKind.i64.wrap (f1 : Int) = (f1 : Int) := wrapI _ (by omega)
        have hv2 : IntKind.i64.wrap (f2 : Int) = (f2 : Int) := wrapI _ (by omega)
        have hv4 : IntKind.i64.wrap (f4 : Int) = (f4 : Int) := wrapI _ (by omega)
        have hv5 : IntKind.i64.wrap (f5 : Int) = (f5 : Int) := wrapI _ (by omega)
        have h60i : ¬ (1152921504606846976 : Int) < (f5 : Int) := by omega
        generalize supL (f1 : Int) (f2 : Int) (f4 : Int) ((f3 : Int) == 1) (f5 : Int) = YS at *
        generalize supE (f1 : Int) (f2 : Int) (f4 : Int) (f5 : Int) = EE at *
        generalize decE xs = DE at *
        generalize decV xs = DV at *
        clear hrM hv hu hst ho hxl h60
        go_enter Try.func35, Try.ntmps35
        go_upto_region 4 with (first
          | (go_at_call 62; refine (refOpen_any p n c xs _ hx0).mono ?_; rintro e w1 ⟨p1, n1, c1, rfl, hin1, hb1⟩; have r1 := r0.kept hb1; have hB1 := bt hb0 hb1; rw [HO.out]; have hn1 := hin1.len; rw [HOL.out] at hn1; subst hn1))
        have hc23 : (23 : Int) ≤ (c1 : Int) := by have := hin1.cap; omega
        have hf1 := hin1.front 23 (by decide)
        refine wp_region_noPanic ?_
        refine wp_region_held_drew (S := fun X => Below w1.heap.size w1 X) (by kernel_rfl) ((Below.refl _ _).drew) (fun hHeld => ?_)
        refine wpAnyH_take (i := 1) (v := ?_) rfl (by kernel_rfl) (by kernel_rfl) (by kernel_rfl) (fun _ _ _ h => h) (Or.inl ⟨by kernel_rfl, ?_⟩) hHeld ?_
        rotate_left
        · intro w' hSw; try dsimp only at hSw
          go_simp; try (with_reducible rfl)
        try simp only [Act.put, List.getElem_toArray, List.getElem_cons_succ, List.getElem_cons_zero, List.setIfInBounds_toArray, List.set_cons_zero, List.set_cons_succ]
        refine wpAnyH_take (i := 2) (v := ?_) rfl (by kernel_rfl) (by kernel_rfl) (by kernel_rfl) (fun _ _ _ h => h) (Or.inl ⟨by kernel_rfl, ?_⟩) hHeld ?_
        rotate_left
        · intro w' hSw; try dsimp only at hSw
          go_simp; try (with_reducible rfl)
        try simp only [Act.put, List.getElem_toArray, List.getElem_cons_succ, List.getElem_cons_zero, List.setIfInBounds_toArray, List.set_cons_zero, List.set_cons_succ]
        refine wpAnyH_ready (rs := [0]) (by kernel_rfl) (by simp) ?_
        refine AllReadyH.cons rfl (fun K hK => ?_) AllReadyH.nil
        go_simp
        refine (rsuperW_any _).mono ?_
        rintro e w2 ⟨p2, rfl, hin2, hb2⟩
        have hS2 := bt hHeld hb2
        refine hK.out _ _ hS2 (fun hHeld => ?_)
        clear hK K
        try simp only [Act.put, List.getElem_toArray, List.getElem_cons_succ, List.getElem_cons_zero, List.setIfInBounds_toArray, List.set_cons_zero, List.set_cons_succ]
        refine wpAnyH_ready (rs := [3]) (by kernel_rfl) (by simp) ?_
        refine AllReadyH.cons rfl (fun K hK => ?_) AllReadyH.nil
        go_simp
        refine (refUnpack_any p2 p1 6 6 23 c1 wsS ((openL xs).take 23) _ hin2 (hf1.below hHeld)).mono ?_
        rintro e w3 ⟨p3, n3, c3, rfl, hin3, hb3⟩
        have hS3 := bt hHeld hb3
        refine hK.out _ _ hS3 (fun hHeld => ?_)
        clear hK K
        try simp only [Act.put, List.getElem_toArray, List.getElem_cons_succ, List.getElem_cons_zero, List.setIfInBounds_toArray, List.set_cons_zero, List.set_cons_succ]
        refine wpAnyH_take (i := 4) (v := ?_) rfl (by kernel_rfl) (by kernel_rfl) (by kernel_rfl) (fun _ _ _ h => h) (Or.inl ⟨by kernel_rfl, ?_⟩) hHeld ?_
        rotate_left
        · intro w' hSw; try dsimp only at hSw
          go_simp; try (with_reducible rfl)
        try simp only [Act.put, List.getElem_toArray, List.getElem_cons_succ, List.getElem_cons_zero, List.setIfInBounds_toArray, List.set_cons_zero, List.set_cons_succ]
        refine wpAnyH_take (i := 5) (v := ?_) rfl (by kernel_rfl) (by kernel_rfl) (by kernel_rfl) (fun _ _ _ h => h) (Or.inl ⟨by kernel_rfl, ?_⟩) hHeld ?_
        rotate_left
        · intro w' hSw; try dsimp only at hSw
          go_simp; try (with_reducible rfl)
        try simp only [Act.put, List.getElem_toArray, List.getElem_cons_succ, List.getElem_cons_zero, List.setIfInBounds_toArray, List.set_cons_zero, List.set_cons_succ]
        refine wpAnyH_take (i := 6) (v := ?_) rfl (by kernel_rfl) (by kernel_rfl) (by kernel_rfl) (fun _ _ _ h => h) (Or.inl ⟨by kernel_rfl, ?_⟩) hHeld ?_
        rotate_left
        · intro w' hSw; try dsimp only at hSw
          go_simp; try (with_reducible rfl)
        try simp only [Act.put, List.getElem_toArray, List.getElem_cons_succ, List.getElem_cons_zero, List.setIfInBounds_toArray, List.set_cons_zero, List.set_cons_succ]
        refine wpAnyH_take (i := 7) (v := ?_) rfl (by kernel_rfl) (by kernel_rfl) (by kernel_rfl) (fun _ _ _ h => h) (Or.inl ⟨by kernel_rfl, ?_⟩) hHeld ?_
        rotate_left
        · intro w' hSw; try dsimp only at hSw
          go_simp; try (with_reducible rfl)
        try simp only [Act.put, List.getElem_toArray, List.getElem_cons_succ, List.getElem_cons_zero, List.setIfInBounds_toArray, List.set_cons_zero, List.set_cons_succ]
        refine wpAnyH_take (i := 8) (v := ?_) rfl (by kernel_rfl) (by kernel_rfl) (by kernel_rfl) (fun _ _ _ h => h) (Or.inl ⟨by kernel_rfl, ?_⟩) hHeld ?_
        rotate_left
        · intro w' hSw; try dsimp only at hSw
          go_simp; try (with_reducible rfl)
        try simp only [Act.put, List.getElem_toArray, List.getElem_cons_succ, List.getElem_cons_zero, List.setIfInBounds_toArray, List.set_cons_zero, List.set_cons_succ]
        refine wpAnyH_done (by kernel_rfl) ?_ _
        refine NoPanic.normal ?_
        have hn3 := hin3.len
        rw [HU.out] at hn3
        subst hn3
        obtain ⟨b5, o5, rfl, hb5, hc5⟩ := hin3.at' (by decide)
        have hcap := hin3.cap
        have d1 := hc5 1 (by decide)
        have d2 := hc5 2 (by decide)
        have d3 := hc5 3 (by decide)
        have d4 := hc5 4 (by decide)
        have d5 := hc5 5 (by decide)
        unfold el at d1 d2 d3 d4 d5
        rw [V1.out] at d1
        rw [V2.out] at d2
        rw [V3.out] at d3
        rw [V4.out] at d4
        rw [V5.out] at d5
        have r3 := r1.kept hS3
        have hB3 := bt hB1 hS3
        clear hc5 hin3 hf1 hc23 hin2 hb2 hb3 hS2 hS3 hHeld r1 hB1 hin1 hb1
        go_upto_region 7 with fail
        refine wp_region_noPanic ?_
        refine wp_region_held_drew (S := fun X => X.cell? ⟨b5, o5 + 1, none⟩ = some (.int .u64 (f1 : Int)) ∧ X.cell? ⟨b5, o5 + 2, none⟩ = some (.int .u64 (f2 : Int)) ∧ X.cell? ⟨b5, o5 + 3, none⟩ = some (.int .u64 (f3 : Int)) ∧ X.cell? ⟨b5, o5 + 4, none⟩ = some (.int .u64 (f4 : Int)) ∧ X.cell? ⟨b5, o5 + 5, none⟩ = some (.int .u64 (f5 : Int))) (by kernel_rfl) ⟨d1, d2, d3, d4, d5⟩ (fun hHeld => ?_)
        refine wpAnyH_take (i := 0) (v := ?_) rfl (by kernel_rfl) (by kernel_rfl) (by kernel_rfl) (fun _ _ _ h => h) (Or.inl ⟨by kernel_rfl, ?_⟩) hHeld ?_
        rotate_left
        · intro w' hSw; try dsimp only at hSw
          go_simp; try (with_reducible rfl)
        try simp only [Act.put, List.getElem_toArray, List.getElem_cons_succ, List.getElem_cons_zero, List.setIfInBounds_toArray, List.set_cons_zero, List.set_cons_succ]
        refine wpAnyH_take (i := 1) (v := ?_) rfl (by kernel_rfl) (by kernel_rfl) (by kernel_rfl) (fun _ _ _ h => h) (Or.inl ⟨by kernel_rfl, ?_⟩) hHeld ?_
        rotate_left
        · intro w' hSw; try dsimp only at hSw
          go_simp; try (with_reducible rfl)
        try simp only [Act.put, List.getElem_toArray, List.getElem_cons_succ, List.getElem_cons_zero, List.setIfInBounds_toArray, List.set_cons_zero, List.set_cons_succ]
        refine wpAnyH_take (i := 2) (v := ?_) rfl (by kernel_rfl) (by kernel_rfl) (by kernel_rfl) (fun _ _ _ h => h) (Or.inl ⟨by kernel_rfl, ?_⟩) hHeld ?_
        rotate_left
        · intro w' hSw; try dsimp only at hSw
          obtain ⟨q1, q2, q3, q4, q5⟩ := hSw
          go_simp; try (with_reducible rfl)
        try simp only [Act.put, List.getElem_toArray, List.getElem_cons_succ, List.getElem_cons_zero, List.setIfInBounds_toArray, List.set_cons_zero, List.set_cons_succ]
        refine wpAnyH_take (i := 3) (v := ?_) rfl (by kernel_rfl) (by kernel_rfl) (by kernel_rfl) (fun _ _ _ h => h) (Or.inl ⟨by kernel_rfl, ?_⟩) hHeld ?_
        rotate_left
        · intro w' hSw; try dsimp only at hSw
          go_simp; try (with_reducible rfl)
        try simp only [Act.put, List.getElem_toArray, List.getElem_cons_succ, List.getElem_cons_zero, List.setIfInBounds_toArray, List.set_cons_zero, List.set_cons_succ]
        refine wpAnyH_take (i := 4) (v := ?_) rfl (by kernel_rfl) (by kernel_rfl) (by kernel_rfl) (fun _ _ _ h => h) (Or.inl ⟨by kernel_rfl, ?_⟩) hHeld ?_
        rotate_left
        · intro w' hSw; try dsimp only at hSw
          go_simp; try (with_reducible rfl)
        try simp only [Act.put, List.getElem_toArray, List.getElem_cons_succ, List.getElem_cons_zero, List.setIfInBounds_toArray, List.set_cons_zero, List.set_cons_succ]
        refine wpAnyH_take (i := 5) (v := ?_) rfl (by kernel_rfl) (by kernel_rfl) (by kernel_rfl) (fun _ _ _ h => h) (Or.inl ⟨by kernel_rfl, ?_⟩) hHeld ?_
        rotate_left
        · intro w' hSw; try dsimp only at hSw
          go_simp; try (with_reducible rfl)
        try simp only [Act.put, List.getElem_toArray, List.getElem_cons_succ, List.getElem_cons_zero, List.setIfInBounds_toArray, List.set_cons_zero, List.set_cons_succ]
        refine wpAnyH_take (i := 6) (v := ?_) rfl (by kernel_rfl) (by kernel_rfl) (by kernel_rfl) (fun _ _ _ h => h) (Or.inl ⟨by kernel_rfl, ?_⟩) hHeld ?_
        rotate_left
        · intro w' hSw; try dsimp only at hSw
          obtain ⟨q1, q2, q3, q4, q5⟩ := hSw
          go_simp; try (with_reducible rfl)
        try simp only [Act.put, List.getElem_toArray, List.getElem_cons_succ, List.getElem_cons_zero, List.setIfInBounds_toArray, List.set_cons_zero, List.set_cons_succ]
        refine wpAnyH_take (i := 7) (v := ?_) rfl (by kernel_rfl) (by kernel_rfl) (by kernel_rfl) (fun _ _ _ h => h) (Or.inl ⟨by kernel_rfl, ?_⟩) hHeld ?_
        rotate_left
        · intro w' hSw; try dsimp only at hSw
          go_simp; try (with_reducible rfl)
        try simp only [Act.put, List.getElem_toArray, List.getElem_cons_succ, List.getElem_cons_zero, List.setIfInBounds_toArray, List.set_cons_zero, List.set_cons_succ]
        refine wpAnyH_take (i := 8) (v := ?_) rfl (by kernel_rfl) (by kernel_rfl) (by kernel_rfl) (fun _ _ _ h => h) (Or.inl ⟨by kernel_rfl, ?_⟩) hHeld ?_
        rotate_left
        · intro w' hSw; try dsimp only at hSw
          go_simp; try (with_reducible rfl)
        try simp only [Act.put, List.getElem_toArray, List.getElem_cons_succ, List.getElem_cons_zero, List.setIfInBounds_toArray, List.set_cons_zero, List.set_cons_succ]
        refine wpAnyH_take (i := 9) (v := ?_) rfl (by kernel_rfl) (by kernel_rfl) (by kernel_rfl) (fun _ _ _ h => h) (Or.inl ⟨by kernel_rfl, ?_⟩) hHeld ?_
        rotate_left
        · intro w' hSw; try dsimp only at hSw
          go_simp; try (with_reducible rfl)
        try simp only [Act.put, List.getElem_toArray, List.getElem_cons_succ, List.getElem_cons_zero, List.setIfInBounds_toArray, List.set_cons_zero, List.set_cons_succ]
        refine wpAnyH_take (i := 10) (v := ?_) rfl (by kernel_rfl) (by kernel_rfl) (by kernel_rfl) (fun _ _ _ h => h) (Or.inl ⟨by kernel_rfl, ?_⟩) hHeld ?_
        rotate_left
        · intro w' hSw; try dsimp only at hSw
          go_simp; try (with_reducible rfl)
        try simp only [Act.put, List.getElem_toArray, List.getElem_cons_succ, List.getElem_cons_zero, List.setIfInBounds_toArray, List.set_cons_zero, List.set_cons_succ]
        refine wpAnyH_take (i := 11) (v := ?_) rfl (by kernel_rfl) (by kernel_rfl) (by kernel_rfl) (fun _ _ _ h => h) (Or.inl ⟨by kernel_rfl, ?_⟩) hHeld ?_
        rotate_left
        · intro w' hSw; try dsimp only at hSw
          obtain ⟨q1, q2, q3, q4, q5⟩ := hSw
          go_simp; try (with_reducible rfl)
        try simp only [Act.put, List.getElem_toArray, List.getElem_cons_succ, List.getElem_cons_zero, List.setIfInBounds_toArray, List.set_cons_zero, List.set_cons_succ]
        refine wpAnyH_take (i := 12) (v := ?_) rfl (by kernel_rfl) (by kernel_rfl) (by kernel_rfl) (fun _ _ _ h => h) (Or.inl ⟨by kernel_rfl, ?_⟩) hHeld ?_
        rotate_left
        · intro w' hSw; try dsimp only at hSw
          go_simp; try (with_reducible rfl)
        try simp only [Act.put, List.getElem_toArray, List.getElem_cons_succ, List.getElem_cons_zero, List.setIfInBounds_toArray, List.set_cons_zero, List.set_cons_succ]
        refine wpAnyH_take (i := 13) (v := ?_) rfl (by kernel_rfl) (by kernel_rfl) (by kernel_rfl) (fun _ _ _ h => h) (Or.inl ⟨by kernel_rfl, ?_⟩) hHeld ?_
        rotate_left
        · intro w' hSw; try dsimp only at hSw
          go_simp; try (with_reducible rfl)
        try simp only [Act.put, List.getElem_toArray, List.getElem_cons_succ, List.getElem_cons_zero, List.setIfInBounds_toArray, List.set_cons_zero, List.set_cons_succ]
        refine wpAnyH_take (i := 14) (v := ?_) rfl (by kernel_rfl) (by kernel_rfl) (by kernel_rfl) (fun _ _ _ h => h) (Or.inl ⟨by kernel_rfl, ?_⟩) hHeld ?_
        rotate_left
        · intro w' hSw; try dsimp only at hSw
          go_simp; try (with_reducible rfl)
        try simp only [Act.put, List.getElem_toArray, List.getElem_cons_succ, List.getElem_cons_zero, List.setIfInBounds_toArray, List.set_cons_zero, List.set_cons_succ]
        refine wpAnyH_take (i := 15) (v := ?_) rfl (by kernel_rfl) (by kernel_rfl) (by kernel_rfl) (fun _ _ _ h => h) (Or.inl ⟨by kernel_rfl, ?_⟩) hHeld ?_
        rotate_left
        · intro w' hSw; try dsimp only at hSw
          obtain ⟨q1, q2, q3, q4, q5⟩ := hSw
          go_simp; try (with_reducible rfl)
        try simp only [Act.put, List.getElem_toArray, List.getElem_cons_succ, List.getElem_cons_zero, List.setIfInBounds_toArray, List.set_cons_zero, List.set_cons_succ]
        refine wpAnyH_take (i := 16) (v := ?_) rfl (by kernel_rfl) (by kernel_rfl) (by kernel_rfl) (fun _ _ _ h => h) (Or.inl ⟨by kernel_rfl, ?_⟩) hHeld ?_
        rotate_left
        · intro w' hSw; try dsimp only at hSw
          go_simp; try (with_reducible rfl)
        try simp only [Act.put, List.getElem_toArray, List.getElem_cons_succ, List.getElem_cons_zero, List.setIfInBounds_toArray, List.set_cons_zero, List.set_cons_succ]
        refine wpAnyH_take (i := 17) (v := ?_) rfl (by kernel_rfl) (by kernel_rfl) (by kernel_rfl) (fun _ _ _ h => h) (Or.inl ⟨by kernel_rfl, ?_⟩) hHeld ?_
        rotate_left
        · intro w' hSw; try dsimp only at hSw
          go_simp; try (with_reducible rfl)
        try simp only [Act.put, List.getElem_toArray, List.getElem_cons_succ, List.getElem_cons_zero, List.setIfInBounds_toArray, List.set_cons_zero, List.set_cons_succ]
        refine wpAnyH_take (i := 18) (v := ?_) rfl (by kernel_rfl) (by kernel_rfl) (by kernel_rfl) (fun _ _ _ h => h) (Or.inl ⟨by kernel_rfl, ?_⟩) hHeld ?_
        rotate_left
        · intro w' hSw; try dsimp only at hSw
          go_simp; try (with_reducible rfl)
        try simp only [Act.put, List.getElem_toArray, List.getElem_cons_succ, List.getElem_cons_zero, List.setIfInBounds_toArray, List.set_cons_zero, List.set_cons_succ]
        refine wpAnyH_take (i := 19) (v := ?_) rfl (by kernel_rfl) (by kernel_rfl) (by kernel_rfl) (fun _ _ _ h => h) (Or.inl ⟨by kernel_rfl, ?_⟩) hHeld ?_
        rotate_left
        · intro w' hSw; try dsimp only at hSw
          obtain ⟨q1, q2, q3, q4, q5⟩ := hSw
          go_simp; try (with_reducible rfl)
        try simp only [Act.put, List.getElem_toArray, List.getElem_cons_succ, List.getElem_cons_zero, List.setIfInBounds_toArray, List.set_cons_zero, List.set_cons_succ]
        refine wpAnyH_take (i := 20) (v := ?_) rfl (by kernel_rfl) (by kernel_rfl) (by kernel_rfl) (fun _ _ _ h => h) (Or.inl ⟨by kernel_rfl, ?_⟩) hHeld ?_
        rotate_left
        · intro w' hSw; try dsimp only at hSw
          go_simp; try (with_reducible rfl)
        try simp only [Act.put, List.getElem_toArray, List.getElem_cons_succ, List.getElem_cons_zero, List.setIfInBounds_toArray, List.set_cons_zero, List.set_cons_succ]
        refine wpAnyH_take (i := 21) (v := ?_) rfl (by kernel_rfl) (by kernel_rfl) (by kernel_rfl) (fun _ _ _ h => h) (Or.inl ⟨by kernel_rfl, ?_⟩) hHeld ?_
        rotate_left
        · intro w' hSw; try dsimp only at hSw
          go_simp; try (with_reducible rfl)
        try simp only [Act.put, List.getElem_toArray, List.getElem_cons_succ, List.getElem_cons_zero, List.setIfInBounds_toArray, List.set_cons_zero, List.set_cons_succ]
        refine wpAnyH_ready (rs := [22]) (by kernel_rfl) (by simp) ?_
        refine AllReadyH.cons rfl (fun K hK => ?_) AllReadyH.nil
        go_simp
        have hS4 := alloc5 (o := Obj.cells #[.int .i64 0, .int .i64 0, .int .i64 0, .bool false, .int .i64 0] 43) hb5 ⟨d1, d2, d3, d4, d5⟩
        have s4 := Blk.new' w3.drew 43 #[.int .i64 0, .int .i64 0, .int .i64 0, .bool false, .int .i64 0]
        refine hK.out _ _ hS4 (fun hHeld => ?_)
        clear hK K
        try simp only [Act.put, List.getElem_toArray, List.getElem_cons_succ, List.getElem_cons_zero, List.setIfInBounds_toArray, List.set_cons_zero, List.set_cons_succ]
        refine wpAnyH_ready (rs := [23]) (by kernel_rfl) (by simp) ?_
        refine AllReadyH.cons rfl (fun K hK => ?_) AllReadyH.nil
        refine wp_store_blk 43 (.tmp 8) (.tmp 56) rfl _ 0 [.int .i64 (f1 : Int), .int .i64 (f2 : Int), .int .i64 (f4 : Int), .bool ((f3 : Int) == 1), .int .i64 (f5 : Int)] rfl (by first | rfl | (rw [hv1, hv2, hv4, hv5])) s4 (by simp) size_super one5 ?_
        intro w5 s5 t5
        have hS5 := turned5 t5 (show b5 ≠ w3.heap.size from Nat.ne_of_lt hb5) hHeld
        replace s5 : Blk w5 w3.heap.size 43 [.int .i64 (f1 : Int), .int .i64 (f2 : Int), .int .i64 (f4 : Int), .bool ((f3 : Int) == 1), .int .i64 (f5 : Int)] := s5
        have r5 := (r3.drew.alloc (.cells #[.int .i64 0, .int .i64 0, .int .i64 0, .bool false, .int .i64 0] 43)).turned t5 (show w.heap.size ≠ w3.heap.size from Nat.ne_of_lt r3.lt)
        have hB5 := t5.below (bt hB3.drew (below_alloc _ (.cells #[.int .i64 0, .int .i64 0, .int .i64 0, .bool false, .int .i64 0] 43))) (show w.heap.size ≤ w3.heap.size from Nat.le_of_lt r3.lt)
        refine hK.out _ _ hS5 (fun hHeld => ?_)
        clear hK K
        try simp only [Act.put, List.getElem_toArray, List.getElem_cons_succ, List.getElem_cons_zero, List.setIfInBounds_toArray, List.set_cons_zero, List.set_cons_succ]
        refine wpAnyH_done (by kernel_rfl) ?_ _
        refine NoPanic.normal ?_
        clear hHeld hS4 hS5 d1 d2 d3 d4 d5
        have g0 := s5.cell' (i := 0) rfl
        have g1 := s5.cell' (i := 1) rfl
        have g2 := s5.cell' (i := 2) rfl
        have g3 := s5.cell' (i := 3) rfl
        have g4 := s5.cell' (i := 4) rfl
        by_cases he : EE = 0
        · subst he
          have cv1 := fun X p n c (h : In X p n c YS) => conv_in h
          have cv2 := fun X (h : In X p n c xs) => conv_in h
          cases hq : (YS == xs) with
          | true =>
            obtain ⟨e1, e2⟩ := HDE.out rfl (by simpa using hq)
            have D1 : Hid (DE = 0) := e1
            have D2 : Hid (DV = _) := e2
            have hse : ((strOfNums (YS.map fun x : Nat => (x : Int))).toList == (strOfNums (xs.map fun x : Nat => (x : Int))).toList) = true := by rw [str_eq HBY.out hx.byte]; exact hq
            clear e1 e2 HDE HDN hq
            generalize strOfNums (YS.map fun x : Nat => (x : Int)) = s1 at *
            generalize strOfNums (xs.map fun x : Nat => (x : Int)) = s2 at *
            have hsn : (s1.toList != s2.toList) = false := by simp only [bne, hse]; rfl
            go_wp2_with (first
                | (go_at_call 33; refine (hen _).mono ?_; rintro e w6 ⟨p6, n6, c6, rfl, hin6, hb6⟩; have r6 := r5.kept hb6; have hB6 := bt hB5 hb6; have s6 := s5.kept hb6; have d10 := s6.cell' (i := 0) rfl; have d11 := s6.cell' (i := 1) rfl; have d12 := s6.cell' (i := 2) rfl; have d13 := s6.cell' (i := 3) rfl; have d14 := s6.cell' (i := 4) rfl; have e1 := cv1 _ _ _ _ hin6; have e2 := cv2 _ (hx.below hB6))
                | (refine wpList_store_blk rfl 43 (.tmp 2) (.tmp 72) rfl _ 0 [.int .i64 (f1 : Int), .int .i64 (f2 : Int), .int .i64 (f4 : Int), .bool ((f3 : Int) == 1), .int .i64 (f5 : Int)] rfl rfl r6 (by simp) size_super one5 ?_; intro w8 b8 t8))
            refine ret_superE rfl rfl b8 rfl rfl ⟨by rw [D1.out, D2.out]; rfl, t8.below hB6 (Nat.le_refl _)⟩
          | false =>
            obtain ⟨e1, e2⟩ := HDN.out (fun h => by rw [h.2] at hq; simp at hq)
            have D1 : Hid (DE = 111) := e1
            have D2 : Hid (DV = _) := e2
            have hse : ((strOfNums (YS.map fun x : Nat => (x : Int))).toList == (strOfNums (xs.map fun x : Nat => (x : Int))).toList) = false := by rw [str_eq HBY.out hx.byte]; exact hq
            clear e1 e2 HDE HDN hq
            generalize strOfNums (YS.map fun x : Nat => (x : Int)) = s1 at *
            generalize strOfNums (xs.map fun x : Nat => (x : Int)) = s2 at *
            have hsn : (s1.toList != s2.toList) = true := by simp only [bne, hse]; rfl
            go_wp2_with (first
                | (go_at_call 33; refine (hen _).mono ?_; rintro e w6 ⟨p6, n6, c6, rfl, hin6, hb6⟩; have r6 := r5.kept hb6; have hB6 := bt hB5 hb6; have s6 := s5.kept hb6; have d10 := s6.cell' (i := 0) rfl; have d11 := s6.cell' (i := 1) rfl; have d12 := s6.cell' (i := 2) rfl; have d13 := s6.cell' (i := 3) rfl; have d14 := s6.cell' (i := 4) rfl; have e1 := cv1 _ _ _ _ hin6; have e2 := cv2 _ (hx.below hB6))
                | (refine wpList_store_blk rfl 43 (.tmp 2) (.tmp 71) rfl _ 0 [.int .i64 0, .int .i64 0, .int .i64 0, .bool false, .int .i64 0] rfl rfl r6 (by simp) size_super one5 ?_; intro w8 b8 t8))
            refine ret_superE rfl rfl b8 rfl rfl ⟨by rw [D1.out, D2.out]; rfl, t8.below hB6 (Nat.le_refl _)⟩
        · obtain ⟨e1, e2⟩ := HDN.out (fun h => he h.1)
          have D1 : Hid (DE = 111) := e1
          have D2 : Hid (DV = _) := e2
          have hez : (EE != 0) = true := by rw [bne_iff_ne]; exact he
          clear e1 e2 HDE HDN he
          go_wp2_with (first
            | (go_at_call 33; refine (hen _).mono ?_; rintro e w6 ⟨p6, n6, c6, rfl, hin6, hb6⟩; have r6 := r5.kept hb6; have hB6 := bt hB5 hb6; have s6 := s5.kept hb6; have d10 := s6.cell' (i := 0) rfl; have d11 := s6.cell' (i := 1) rfl; have d12 := s6.cell' (i := 2) rfl; have d13 := s6.cell' (i := 3) rfl; have d14 := s6.cell' (i := 4) rfl)
            | (refine wpList_store_blk rfl 43 (.tmp 2) (.tmp 71) rfl _ 0 [.int .i64 0, .int .i64 0, .int .i64 0, .bool false, .int .i64 0] rfl rfl r6 (by simp) size_super one5 ?_; intro w8 b8 t8))
          refine ret_superE rfl rfl b8 rfl rfl ⟨by rw [D1.out, D2.out]; rfl, t8.below hB6 (Nat.le_refl _)⟩
    · have hok : decOk xs = false := by
        cases hq : decOk xs with
        | false => rfl
        | true => exact absurd (decOk_state hq).2.1 ho
      rw [(dec_no hok).1, (dec_no hok).2]
      have HO : Hid (stateL xs = 0) := hst
      have HOL : Hid (¬ (openL xs).length = 252) := ho
      clear hok hst ho
      go_enter Try.func35, Try.ntmps35
      go_wp2_with (first
        | (go_at_call 62; refine (refOpen_any p n c xs _ hx0).mono ?_; rintro e w1 ⟨p1, n1, c1, rfl, hin1, hb1⟩; have r1 := r0.kept hb1; have hB1 := bt hb0 hb1; rw [HO.out]; have hnz : ((n1 : Int) != 252) = true := by rw [bne_iff_ne]; have := hin1.len; have := HOL.out; omega)
        | (refine wpList_store_blk rfl 43 (.tmp 2) (.tmp 22) rfl _ 0 [.int .i64 0, .int .i64 0, .int .i64 0, .bool false, .int .i64 0] rfl rfl r1 (by simp) size_super one5 ?_; intro w8 b8 t8))
      refine ret_superE rfl rfl b8 rfl rfl ⟨rfl, t8.below hB1 (Nat.le_refl _)⟩
  · have hok : decOk xs = false := by
      cases hq : decOk xs with
      | false => rfl
      | true => exact absurd (decOk_state hq).1 hst
    rw [(dec_no hok).1, (dec_no hok).2]
    have hez : (stateL xs != 0) = true := by rw [bne_iff_ne]; exact hst
    clear hok hst
    have hop := fun w hx => refOpen_any p n c xs w hx
    generalize stateL xs = ss at *
    go_enter Try.func35, Try.ntmps35
    go_wp2_with (first
      | (go_at_call 62; refine (hop _ hx0).mono ?_; rintro e w1 ⟨p1, n1, c1, rfl, hin1, hb1⟩; have r1 := r0.kept hb1; have hB1 := bt hb0 hb1)
      | (refine wpList_store_blk rfl 43 (.tmp 2) (.tmp 22) rfl _ 0 [.int .i64 0, .int .i64 0, .int .i64 0, .bool false, .int .i64 0] rfl rfl r1 (by simp) size_super one5 ?_; intro w8 b8 t8))
    refine ret_superE rfl rfl b8 rfl rfl ⟨rfl, t8.below hB1 (Nat.le_refl _)⟩
end Go.Proofs.Ytbimcdaplnmjdaa
