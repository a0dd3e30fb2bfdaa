/-
  What the reference's Decode answers.
-/
import Derived.Test.YtmagcohdhljaeaaPgRefDecP
namespace Go.Proofs.Ytmagcohdhljaeaa
open Go.RowKit
/-- Bytes don't lie where a header lies. -/
theorem in_not_hdr {w : World} {b o c g : Nat} {t : TypeId} {xs : List Nat} (h : In w (some ⟨b, o, none⟩) 284 c xs) (hb : Blk w g t [.int .i64 0, .int .i64 0, .int .i64 0, .int .i64 0]) : b ≠ g := by
  intro e
  subst e
  obtain ⟨b', o', hp, _, hc⟩ := h.at' (by decide)
  cases hp
  have h0 := hc 0 (by decide)
  rw [Nat.add_zero, hb.cell o] at h0
  match o, h0 with
  | 0, h0 => simp at h0
  | 1, h0 => simp at h0
  | 2, h0 => simp at h0
  | 3, h0 => simp at h0
  | o + 4, h0 => simp at h0
set_option maxRecDepth 100000 in
set_option maxHeartbeats 2000000 in
theorem qdecode_bad (P : List Nat) (hP : IsP P) (w : World) (hs : stateL P ≠ 0) :
    Calls Try.prog 15 #[.agg (vals P).toArray] w fun e w' => e = .returned (.tuple #[.agg #[.int .i64 0, .int .i64 0, .int .i64 0, .int .i64 0], .slice none 0 0, .int .i64 (stateL P)]) ∧ Below w.heap.size w w' := by
  have b0 := (Blk.new w 29 (vals P)).alloc (.cells #[.int .i64 0, .int .i64 0, .int .i64 0, .int .i64 0] 23)
  have b1 := Blk.new' (w.alloc (.cells (vals P).toArray 29)) 23 #[.int .i64 0, .int .i64 0, .int .i64 0, .int .i64 0]
  rw [World.size_alloc] at b1
  have hbel : Below w.heap.size w ((w.alloc (.cells (vals P).toArray 29)).alloc (.cells #[.int .i64 0, .int .i64 0, .int .i64 0, .int .i64 0] 23)) := (below_alloc w _).alloc (by simp) _
  obtain ⟨st, hst⟩ : ∃ st, stateL P = st := ⟨_, rfl⟩
  have HS : Hid (stateL P = st) := hst
  rw [hst] at hs
  have hb : (st != 0) = true := by rw [bne_iff_ne]; exact hs
  clear hst hs
  go_enter Try.func15, Try.ntmps15
  go_wp2_with (first
    | (refine wpList_load_mid rfl 29 _ rfl w.heap.size 0 rfl (vals P) _ (b0.page hP.1) Try.underlying29 rfl (sizeP hP.1) ?_)
    | (go_at_call 41; refine (qbytes_any P hP _).mono ?_; rintro e w1 ⟨p1, c1, rfl, hin1, hb1⟩; have hB1 := bt hbel hb1; have b2 := b1.kept hb1)
    | (go_at_call 40; refine (refOpen_any p1 288 c1 P _ hin1).mono ?_; rintro e w2 ⟨p2, n2, c2, rfl, hin2, hb2⟩; rw [HS.out]; have hB2 := bt hB1 hb2; have b3 := b2.kept hb2)
    | (refine wpList_store_blk rfl 23 _ _ rfl _ _ [.int .i64 0, .int .i64 0, .int .i64 0, .int .i64 0] rfl rfl b3 (by simp) hdr_size hdr_one ?_; intro w5 h5 ht5))
  refine ret_hdr3 Try.results15 rfl h5 rfl ⟨?_, ht5.below hB2 (by omega)⟩
  rw [HS.out]
  rfl
set_option linter.unusedSimpArgs false in
set_option maxRecDepth 100000 in
set_option maxHeartbeats 4000000 in
theorem qdecode_good (P : List Nat) (hP : IsP P) (w : World) (hs : stateL P = 0) :
    Calls Try.prog 15 #[.agg (vals P).toArray] w fun e w' => ((decOk P = false ∧ e = .returned (.tuple #[.agg #[.int .i64 0, .int .i64 0, .int .i64 0, .int .i64 0], .slice none 0 0, .int .i64 30])) ∨
      (decOk P = true ∧ ∃ p c, e = .returned (.tuple #[.agg #[.int .i64 (hv0 P), .int .i64 (hv1 P), .int .i64 (hv2 P), .int .i64 (hv3 P)], .slice p 256 c, .int .i64 0]) ∧ In w' p 256 c (P.take 256))) ∧ Below w.heap.size w w' := by
  have b0 := (Blk.new w 29 (vals P)).alloc (.cells #[.int .i64 0, .int .i64 0, .int .i64 0, .int .i64 0] 23)
  have b1 := Blk.new' (w.alloc (.cells (vals P).toArray 29)) 23 #[.int .i64 0, .int .i64 0, .int .i64 0, .int .i64 0]
  rw [World.size_alloc] at b1
  have hbel : Below w.heap.size w ((w.alloc (.cells (vals P).toArray 29)).alloc (.cells #[.int .i64 0, .int .i64 0, .int .i64 0, .int .i64 0] 23)) := (below_alloc w _).alloc (by simp) _
  have HDI : Hid (decOk P = (chkB (hv0 P) (hv1 P) (hv2 P) (hv3 P) && headL (hv0 P) (hv1 P) (hv2 P) (hv3 P) == x28 P)) := dec_iff hP hs
  have HSM : Hid (chkB (hv0 P) (hv1 P) (hv2 P) (hv3 P) = true → (fld P 3 : Int) ≤ 1152921504606846976 ∧ (fld P 4 : Int) ≤ 1152921504606846976) := chk_small
  have HV : Hid (hv0 P = IntKind.i64.wrap (fld P 0) ∧ hv1 P = IntKind.i64.wrap (fld P 2) ∧ hv2 P = IntKind.i64.wrap (fld P 3) ∧ hv3 P = IntKind.i64.wrap (fld P 4)) := ⟨rfl, rfl, rfl, rfl⟩
  have HXB : Hid (∀ x ∈ x28 P, x < 256) := x28_byte hP
  have HTX : Hid ((P.take 284).drop 256 = x28 P) := take_x28 P
  have HT2 : Hid ((P.take 284).take 256 = P.take 256) := by show _ = _; rw [List.take_take]; rfl
  have HF : Hid (∀ i, i < 5 → (valsTo ws5 ((x28 P).take 22) 5).getD i 0 = fld P i) := fun i hi => fld5 P hP i hi
  have hop := fun p c w h => refOpen_284 p c P hP hs w h
  have HOP : Hid (∀ p c w, In w p 288 c P → Calls Try.prog 40 #[.slice p 288 c] w fun e w' => ∃ b o c', e = .returned (.tuple #[.slice (some ⟨b, o, none⟩) 284 c', .int .i64 0]) ∧ In w' (some ⟨b, o, none⟩) 284 c' (P.take 284) ∧ Below w.heap.size w w') := hop
  clear hop hs
  go_enter Try.func15, Try.ntmps15
  go_wp2_with (first
    | (refine wpList_load_mid rfl 29 _ rfl w.heap.size 0 rfl (vals P) _ (b0.page hP.1) Try.underlying29 rfl (sizeP hP.1) ?_)
    | (go_at_call 41; refine (qbytes_any P hP _).mono ?_; rintro e w1 ⟨p1, c1, rfl, hin1, hb1⟩; have hB1 := bt hbel hb1; have b2 := b1.kept hb1)
    | (go_at_call 40; refine (HOP.out p1 c1 _ hin1).mono ?_; rintro e w2 ⟨b, o, c2, rfl, hin2, hb2⟩; have hB2 := bt hB1 hb2; have b3 := b2.kept hb2; obtain ⟨q, hsl, hin3⟩ := slice_from hin2 256 (by decide); rw [HTX.out] at hin3; have hsl1 : ∀ W, (Instr.slice 24 (.slice (some ⟨b, o, none⟩) 284 c2) (some (.int .i64 256)) none none).run Try.prog W = .ok (.slice (some ⟨b, q, none⟩) 28 (c2 - 256)) W := hsl; clear hsl; have hcap3 := hin3.cap; have hsl2 : ∀ W, (Instr.slice 24 (.slice (some ⟨b, q, none⟩) 28 (c2 - 256)) none (some (.int .i64 22)) none).run Try.prog W = .ok (.slice (some ⟨b, q, none⟩) 22 (c2 - 256)) W := slice_front (some ⟨b, q, none⟩) 28 (c2 - 256) 22 (by decide) hcap3; have hin4 := (hin3.front 22 (by decide)).below (below_alloc w2 (.cells #[.int .i64 8, .int .i64 8, .int .i64 32, .int .i64 64, .int .i64 64] 3))))
  have hI := in_litI w2 (cs := #[.int .i64 8, .int .i64 8, .int .i64 32, .int .i64 64, .int .i64 64]) (xs := ws5) (n := 5) rfl rfl (by decide)
  refine (refUnpack5 _ _ _ _ _ hI hin4).mono ?_
  rintro e w3 ⟨p3, c3, rfl, hin5, hb3⟩
  have hb23 := bt (below_alloc w2 (.cells #[.int .i64 8, .int .i64 8, .int .i64 32, .int .i64 64, .int .i64 64] 3)) hb3
  have hB3 := bt hB2 hb23
  have b4 := b3.kept hb23
  have hin6 := hin3.below hb23
  have hin7 := hin2.below hb23
  have hcap2 := hin2.cap
  obtain ⟨b5, o5, rfl, hb5, hc⟩ := hin5.at' (by decide)
  have hv : ∀ i, i < 5 → w3.cell? ⟨b5, o5 + i, none⟩ = some (.int .u64 (fld P i : Int)) := fun i hi => by rw [hc i hi]; unfold el; rw [HF.out i hi]
  have hcap := hin5.cap
  have y0 := hv 0 (by decide)
  have y2 := hv 2 (by decide)
  have y3 := hv 3 (by decide)
  have y4 := hv 4 (by decide)
  rw [Nat.add_zero] at y0
  clear hI hin2 hin3 hin4 hin5 hb3 hb23 hc hv b0 b1 b2 b3 hb1 hb2 hB1 hB2 hin1 hbel HF HOP hcap3
  obtain ⟨z0, hz0⟩ : ∃ z, (fld P 0 : Int) = z := ⟨_, rfl⟩
  rw [hz0] at y0
  obtain ⟨z2, hz2⟩ : ∃ z, (fld P 2 : Int) = z := ⟨_, rfl⟩
  rw [hz2] at y2
  obtain ⟨z3, hz3⟩ : ∃ z, (fld P 3 : Int) = z := ⟨_, rfl⟩
  rw [hz3] at y3
  obtain ⟨z4, hz4⟩ : ∃ z, (fld P 4 : Int) = z := ⟨_, rfl⟩
  rw [hz4] at y4
  obtain ⟨k0, hk0⟩ : ∃ k, hv0 P = k := ⟨_, rfl⟩
  obtain ⟨k1, hk1⟩ : ∃ k, hv1 P = k := ⟨_, rfl⟩
  obtain ⟨k2, hk2⟩ : ∃ k, hv2 P = k := ⟨_, rfl⟩
  obtain ⟨k3, hk3⟩ : ∃ k, hv3 P = k := ⟨_, rfl⟩
  have HK : Hid (IntKind.i64.wrap z0 = k0 ∧ IntKind.i64.wrap z2 = k1 ∧ IntKind.i64.wrap z3 = k2 ∧ IntKind.i64.wrap z4 = k3) := by have := HV.out; rw [hz0, hz2, hz3, hz4, hk0, hk1, hk2, hk3] at this; exact ⟨this.1.symm, this.2.1.symm, this.2.2.1.symm, this.2.2.2.symm⟩
  have HDI2 : Hid (decOk P = (chkB k0 k1 k2 k3 && headL k0 k1 k2 k3 == x28 P)) := by have := HDI.out; rw [hk0, hk1, hk2, hk3] at this; exact this
  have HSM2 : Hid (chkB k0 k1 k2 k3 = true → z3 ≤ 1152921504606846976 ∧ z4 ≤ 1152921504606846976) := by have := HSM.out; rw [hk0, hk1, hk2, hk3, hz3, hz4] at this; exact this
  have HPK : Hid (hv0 P = k0 ∧ hv1 P = k1 ∧ hv2 P = k2 ∧ hv3 P = k3) := ⟨hk0, hk1, hk2, hk3⟩
  clear HV HDI HSM hz0 hz2 hz3 hz4 hk0 hk1 hk2 hk3
  by_cases h3 : 1152921504606846976 < z3
  · have hd3 : decide ((1152921504606846976 : Int) < z3) = true := by simpa using h3
    have HFA : Hid (decOk P = false) := by
      show _ = _
      rw [HDI2.out]
      cases hc : chkB k0 k1 k2 k3 with
      | false => rfl
      | true => have := (HSM2.out hc).1; omega
    clear h3
    go_wp2_with (refine wpList_store_blk rfl 23 (.tmp 2) (.tmp 40) rfl _ _ [.int .i64 0, .int .i64 0, .int .i64 0, .int .i64 0] rfl rfl b4 (by simp) hdr_size hdr_one ?_; intro w10 h10 ht10)
    exact ret_hdr3 Try.results15 rfl h10 rfl ⟨.inl ⟨HFA.out, rfl⟩, ht10.below hB3 (by omega)⟩
  by_cases h4 : 1152921504606846976 < z4
  · have hd3 : decide ((1152921504606846976 : Int) < z3) = false := by simpa using h3
    have hd4 : decide ((1152921504606846976 : Int) < z4) = true := by simpa using h4
    have HFA : Hid (decOk P = false) := by
      show _ = _
      rw [HDI2.out]
      cases hc : chkB k0 k1 k2 k3 with
      | false => rfl
      | true => have := (HSM2.out hc).2; omega
    clear h3 h4
    go_wp2_with (refine wpList_store_blk rfl 23 (.tmp 2) (.tmp 40) rfl _ _ [.int .i64 0, .int .i64 0, .int .i64 0, .int .i64 0] rfl rfl b4 (by simp) hdr_size hdr_one ?_; intro w10 h10 ht10)
    exact ret_hdr3 Try.results15 rfl h10 rfl ⟨.inl ⟨HFA.out, rfl⟩, ht10.below hB3 (by omega)⟩
  have hd3 : decide ((1152921504606846976 : Int) < z3) = false := by simpa using h3
  have hd4 : decide ((1152921504606846976 : Int) < z4) = false := by simpa using h4
  clear h3 h4
  go_wp2
  go_region_held3 (fun w' => w'.cell? ⟨b5, o5, none⟩ = some (.int .u64 z0) ∧ w'.cell? ⟨b5, o5 + 2, none⟩ = some (.int .u64 z2) ∧ w'.cell? ⟨b5, o5 + 3, none⟩ = some (.int .u64 z3) ∧ w'.cell? ⟨b5, o5 + 4, none⟩ = some (.int .u64 z4)) (go_keep) (fail)
  clear y0 y2 y3 y4
  rename_i hHeld
  clear hHeld
  rw [HK.out.1, HK.out.2.1, HK.out.2.2.1, HK.out.2.2.2]
  have c0 := (b4.alloc (.cells #[.int .i64 k0, .int .i64 k1, .int .i64 k2, .int .i64 k3] 23)).drew
  have c1 := (Blk.new' w3 23 #[.int .i64 k0, .int .i64 k1, .int .i64 k2, .int .i64 k3]).drew
  have hin8 := hin6.below ((Below.refl w3.heap.size w3).alloc (Nat.le_refl _) (.cells #[.int .i64 k0, .int .i64 k1, .int .i64 k2, .int .i64 k3] 23)).drew
  have hin9 := hin7.below ((Below.refl w3.heap.size w3).alloc (Nat.le_refl _) (.cells #[.int .i64 k0, .int .i64 k1, .int .i64 k2, .int .i64 k3] 23)).drew
  have hB4 := (hB3.alloc hB3.size (.cells #[.int .i64 k0, .int .i64 k1, .int .i64 k2, .int .i64 k3] 23)).drew
  have hl4 := b4.lt
  clear b4 hin6 hin7
  generalize ((w3.alloc (.cells #[.int .i64 k0, .int .i64 k1, .int .i64 k2, .int .i64 k3] 23)).drew) = W at *
  generalize w3.heap.size = G1 at *
  have hsl3 : ∀ W, (Instr.slice 24 (.slice (some ⟨b, o, none⟩) 284 c2) none (some (.int .i64 256)) none).run Try.prog W = .ok (.slice (some ⟨b, o, none⟩) 256 c2) W := slice_front (some ⟨b, o, none⟩) 284 c2 256 (by decide) hcap2
  cases hc : chkB k0 k1 k2 k3 with
  | false =>
    have HFA : Hid (decOk P = false) := by show _ = _; rw [HDI2.out, hc]; rfl
    have HCE : Hid (chkE k0 k1 k2 k3 = 30) := by show _ = _; unfold chkE; rw [hc]; rfl
    clear hc
    go_wp2_with fail
    refine wp_region_noPanic ?_
    refine wp_region_held_drew (S := fun w' => Blk w' G1 23 [.int .i64 k0, .int .i64 k1, .int .i64 k2, .int .i64 k3] ∧ In w' (some ⟨b, q, none⟩) 28 (c2 - 256) (x28 P)) (by kernel_rfl) ⟨c1.drew, hin8.below ((Below.refl _ _).drew)⟩ (fun hHeld => ?_)
    refine wpAnyH_take (i := 0) (v := .agg ([.int .i64 k0, .int .i64 k1, .int .i64 k2, .int .i64 k3]).toArray) rfl (by kernel_rfl) (by kernel_rfl) (by kernel_rfl) (fun _ _ _ h => h) (yieldsIf_load_mid (by rfl) _ _ rfl (G1) 0 rfl ([.int .i64 k0, .int .i64 k1, .int .i64 k2, .int .i64 k3]) _ (fun w hSw => hSw.1.range 0 4 _ rfl) Try.underlying23 rfl hdr_size) hHeld ?_
    try simp only [Act.put, List.getElem_toArray, List.getElem_cons_succ, List.getElem_cons_zero, List.setIfInBounds_toArray, List.set_cons_zero, List.set_cons_succ]
    refine wpAnyH_ready (rs := [1]) (by kernel_rfl) (by simp) ?_
    refine AllReadyH.cons rfl (fun K hK => ?_) AllReadyH.nil
    go_simp
    refine (qcheck_any k0 k1 k2 k3 _).mono ?_
    rintro e w6 ⟨rfl, g1⟩
    rw [HCE.out]
    try go_wp2_with fail
    refine hK.out _ _ ⟨hHeld.1.kept g1, hHeld.2.below g1⟩ (fun hHeld => ?_)
    clear hK K
    try simp only [Act.put, List.getElem_toArray, List.getElem_cons_succ, List.getElem_cons_zero, List.setIfInBounds_toArray, List.set_cons_zero, List.set_cons_succ]
    refine wpAnyH_take (i := 2) (v := ?_) rfl (by kernel_rfl) (by kernel_rfl) (by kernel_rfl) (fun _ _ _ h => h) (Or.inl ⟨by rfl, ?_⟩) hHeld ?_
    rotate_left
    · intro w hSw; try dsimp only at hSw
      go_simp; try (with_reducible rfl)
    try simp only [Act.put, List.getElem_toArray, List.getElem_cons_succ, List.getElem_cons_zero, List.setIfInBounds_toArray, List.set_cons_zero, List.set_cons_succ]
    refine wpAnyH_take (i := 3) (v := ?_) rfl (by kernel_rfl) (by kernel_rfl) (by kernel_rfl) (fun _ _ _ h => h) (Or.inl ⟨by rfl, ?_⟩) hHeld ?_
    rotate_left
    · intro w hSw; try dsimp only at hSw
      go_simp; try (with_reducible rfl)
    try simp only [Act.put, List.getElem_toArray, List.getElem_cons_succ, List.getElem_cons_zero, List.setIfInBounds_toArray, List.set_cons_zero, List.set_cons_succ]
    refine wpAnyH_take (i := 4) (v := undef) rfl (by kernel_rfl) (by kernel_rfl) (by kernel_rfl) (fun _ _ _ h => h) (Or.inr ⟨by rfl, rfl⟩) hHeld ?_
    try simp only [Act.put, List.getElem_toArray, List.getElem_cons_succ, List.getElem_cons_zero, List.setIfInBounds_toArray, List.set_cons_zero, List.set_cons_succ]
    refine wpAnyH_take (i := 5) (v := undef) rfl (by kernel_rfl) (by kernel_rfl) (by kernel_rfl) (fun _ _ _ h => h) (Or.inr ⟨by rfl, rfl⟩) hHeld ?_
    try simp only [Act.put, List.getElem_toArray, List.getElem_cons_succ, List.getElem_cons_zero, List.setIfInBounds_toArray, List.set_cons_zero, List.set_cons_succ]
    refine wpAnyH_take (i := 6) (v := undef) rfl (by kernel_rfl) (by kernel_rfl) (by kernel_rfl) (fun _ _ _ h => h) (Or.inr ⟨by rfl, rfl⟩) hHeld ?_
    try simp only [Act.put, List.getElem_toArray, List.getElem_cons_succ, List.getElem_cons_zero, List.setIfInBounds_toArray, List.set_cons_zero, List.set_cons_succ]
    refine wpAnyH_take (i := 7) (v := undef) rfl (by kernel_rfl) (by kernel_rfl) (by kernel_rfl) (fun _ _ _ h => h) (Or.inr ⟨by rfl, rfl⟩) hHeld ?_
    try simp only [Act.put, List.getElem_toArray, List.getElem_cons_succ, List.getElem_cons_zero, List.setIfInBounds_toArray, List.set_cons_zero, List.set_cons_succ]
    refine wpAnyH_take (i := 8) (v := undef) rfl (by kernel_rfl) (by kernel_rfl) (by kernel_rfl) (fun _ _ _ h => h) (Or.inr ⟨by rfl, rfl⟩) hHeld ?_
    try simp only [Act.put, List.getElem_toArray, List.getElem_cons_succ, List.getElem_cons_zero, List.setIfInBounds_toArray, List.set_cons_zero, List.set_cons_succ]
    refine wpAnyH_take (i := 9) (v := undef) rfl (by kernel_rfl) (by kernel_rfl) (by kernel_rfl) (fun _ _ _ h => h) (Or.inr ⟨by rfl, rfl⟩) hHeld ?_
    try simp only [Act.put, List.getElem_toArray, List.getElem_cons_succ, List.getElem_cons_zero, List.setIfInBounds_toArray, List.set_cons_zero, List.set_cons_succ]
    refine wpAnyH_take (i := 10) (v := ?_) rfl (by kernel_rfl) (by kernel_rfl) (by kernel_rfl) (fun _ _ _ h => h) (Or.inl ⟨by rfl, ?_⟩) hHeld ?_
    rotate_left
    · intro w hSw; try dsimp only at hSw
      go_simp; try (with_reducible rfl)
    try simp only [Act.put, List.getElem_toArray, List.getElem_cons_succ, List.getElem_cons_zero, List.setIfInBounds_toArray, List.set_cons_zero, List.set_cons_succ]
    refine wpAnyH_done (by kernel_rfl) ?_ _
    refine NoPanic.normal ?_
    have q1 := (Below.refl W.heap.size W).drew
    have q2 := q1.trans (g1.mono q1.size)
    have e0 := c0.kept q2
    have e1 := c1.kept q2
    have hin10 := hin9.below q2
    have hB5 := bt hB4 q2
    clear hHeld c0 c1 hin8 hin9 hB4
    go_wp2_with (refine wpList_store_blk rfl 23 (.tmp 2) (.tmp 69) rfl _ _ [.int .i64 0, .int .i64 0, .int .i64 0, .int .i64 0] rfl rfl e0 (by simp) hdr_size hdr_one ?_; intro w10 h10 ht10)
    exact ret_hdr3 Try.results15 rfl h10 rfl ⟨.inl ⟨HFA.out, rfl⟩, ht10.below hB5 (by omega)⟩
  | true =>
    have HCE : Hid (chkE k0 k1 k2 k3 = 0) := by show _ = _; unfold chkE; rw [hc]; rfl
    have HCB : Hid (chkB k0 k1 k2 k3 = true) := hc
    have hse := str_eq (headL_byte hc) HXB.out
    clear hc
    cases hx : (headL k0 k1 k2 k3 == x28 P) with
    | false =>
      have HFA : Hid (decOk P = false) := by show _ = _; rw [HDI2.out, HCB.out, hx]; rfl
      rw [hx] at hse
      clear hx
      go_wp2_with fail
      refine wp_region_noPanic ?_
      refine wp_region_held_drew (S := fun w' => Blk w' G1 23 [.int .i64 k0, .int .i64 k1, .int .i64 k2, .int .i64 k3] ∧ In w' (some ⟨b, q, none⟩) 28 (c2 - 256) (x28 P)) (by kernel_rfl) ⟨c1.drew, hin8.below ((Below.refl _ _).drew)⟩ (fun hHeld => ?_)
      refine wpAnyH_take (i := 0) (v := .agg ([.int .i64 k0, .int .i64 k1, .int .i64 k2, .int .i64 k3]).toArray) rfl (by kernel_rfl) (by kernel_rfl) (by kernel_rfl) (fun _ _ _ h => h) (yieldsIf_load_mid (by rfl) _ _ rfl (G1) 0 rfl ([.int .i64 k0, .int .i64 k1, .int .i64 k2, .int .i64 k3]) _ (fun w hSw => hSw.1.range 0 4 _ rfl) Try.underlying23 rfl hdr_size) hHeld ?_
      try simp only [Act.put, List.getElem_toArray, List.getElem_cons_succ, List.getElem_cons_zero, List.setIfInBounds_toArray, List.set_cons_zero, List.set_cons_succ]
      refine wpAnyH_ready (rs := [1]) (by kernel_rfl) (by simp) ?_
      refine AllReadyH.cons rfl (fun K hK => ?_) AllReadyH.nil
      go_simp
      refine (qcheck_any k0 k1 k2 k3 _).mono ?_
      rintro e w6 ⟨rfl, g1⟩
      rw [HCE.out]
      try go_wp2_with fail
      refine hK.out _ _ ⟨hHeld.1.kept g1, hHeld.2.below g1⟩ (fun hHeld => ?_)
      clear hK K
      try simp only [Act.put, List.getElem_toArray, List.getElem_cons_succ, List.getElem_cons_zero, List.setIfInBounds_toArray, List.set_cons_zero, List.set_cons_succ]
      refine wpAnyH_take (i := 2) (v := ?_) rfl (by kernel_rfl) (by kernel_rfl) (by kernel_rfl) (fun _ _ _ h => h) (Or.inl ⟨by rfl, ?_⟩) hHeld ?_
      rotate_left
      · intro w hSw; try dsimp only at hSw
        go_simp; try (with_reducible rfl)
      try simp only [Act.put, List.getElem_toArray, List.getElem_cons_succ, List.getElem_cons_zero, List.setIfInBounds_toArray, List.set_cons_zero, List.set_cons_succ]
      refine wpAnyH_take (i := 3) (v := ?_) rfl (by kernel_rfl) (by kernel_rfl) (by kernel_rfl) (fun _ _ _ h => h) (Or.inl ⟨by rfl, ?_⟩) hHeld ?_
      rotate_left
      · intro w hSw; try dsimp only at hSw
        go_simp; try (with_reducible rfl)
      try simp only [Act.put, List.getElem_toArray, List.getElem_cons_succ, List.getElem_cons_zero, List.setIfInBounds_toArray, List.set_cons_zero, List.set_cons_succ]
      refine wpAnyH_take (i := 4) (v := .agg ([.int .i64 k0, .int .i64 k1, .int .i64 k2, .int .i64 k3]).toArray) rfl (by kernel_rfl) (by kernel_rfl) (by kernel_rfl) (fun _ _ _ h => h) (yieldsIf_load_mid (by rfl) _ _ rfl (G1) 0 rfl ([.int .i64 k0, .int .i64 k1, .int .i64 k2, .int .i64 k3]) _ (fun w hSw => hSw.1.range 0 4 _ rfl) Try.underlying23 rfl hdr_size) hHeld ?_
      try simp only [Act.put, List.getElem_toArray, List.getElem_cons_succ, List.getElem_cons_zero, List.setIfInBounds_toArray, List.set_cons_zero, List.set_cons_succ]
      refine wpAnyH_take (i := 7) (v := ?_) rfl (by kernel_rfl) (by kernel_rfl) (by kernel_rfl) (fun _ _ _ h => h) (Or.inl ⟨by rfl, ?_⟩) hHeld ?_
      rotate_left
      · intro w hSw; try dsimp only at hSw
        go_simp; try (with_reducible rfl)
      try simp only [Act.put, List.getElem_toArray, List.getElem_cons_succ, List.getElem_cons_zero, List.setIfInBounds_toArray, List.set_cons_zero, List.set_cons_succ]
      refine wpAnyH_take (i := 8) (v := ?_) rfl (by kernel_rfl) (by kernel_rfl) (by kernel_rfl) (fun _ _ _ h => h) (Or.inl ⟨by rfl, ?_⟩) hHeld ?_
      rotate_left
      · intro w hSw; try dsimp only at hSw
        have hcx := conv_in hSw.2
        go_simp; try (with_reducible rfl)
      try simp only [Act.put, List.getElem_toArray, List.getElem_cons_succ, List.getElem_cons_zero, List.setIfInBounds_toArray, List.set_cons_zero, List.set_cons_succ]
      refine wpAnyH_ready (rs := [5]) (by kernel_rfl) (by simp) ?_
      refine AllReadyH.cons rfl (fun K hK => ?_) AllReadyH.nil
      go_simp
      refine (qheader_any k0 k1 k2 k3 _ HCB.out).mono ?_
      rintro e w7 ⟨p7, c7, rfl, hin11, g2⟩
      try go_wp2_with fail
      refine hK.out _ _ ⟨hHeld.1.kept g2, hHeld.2.below g2⟩ (fun hHeld => ?_)
      clear hK K
      try simp only [Act.put, List.getElem_toArray, List.getElem_cons_succ, List.getElem_cons_zero, List.setIfInBounds_toArray, List.set_cons_zero, List.set_cons_succ]
      have hcv := conv_in hin11
      refine wpAnyH_ready (rs := [6]) (by kernel_rfl) (by simp) ?_
      refine AllReadyH.cons rfl (fun K hK => ?_) AllReadyH.nil
      go_simp
      refine hK.out _ _ hHeld (fun hHeld => ?_)
      clear hK K
      try simp only [Act.put, List.getElem_toArray, List.getElem_cons_succ, List.getElem_cons_zero, List.setIfInBounds_toArray, List.set_cons_zero, List.set_cons_succ]
      refine wpAnyH_take (i := 9) (v := ?_) rfl (by kernel_rfl) (by kernel_rfl) (by kernel_rfl) (fun _ _ _ h => h) (Or.inl ⟨by rfl, ?_⟩) hHeld ?_
      rotate_left
      · intro w hSw; try dsimp only at hSw
        go_simp; try (with_reducible rfl)
      try simp only [Act.put, List.getElem_toArray, List.getElem_cons_succ, List.getElem_cons_zero, List.setIfInBounds_toArray, List.set_cons_zero, List.set_cons_succ]
      refine wpAnyH_take (i := 10) (v := ?_) rfl (by kernel_rfl) (by kernel_rfl) (by kernel_rfl) (fun _ _ _ h => h) (Or.inl ⟨by rfl, ?_⟩) hHeld ?_
      rotate_left
      · intro w hSw; try dsimp only at hSw
        go_simp; try (with_reducible rfl)
      try simp only [Act.put, List.getElem_toArray, List.getElem_cons_succ, List.getElem_cons_zero, List.setIfInBounds_toArray, List.set_cons_zero, List.set_cons_succ]
      refine wpAnyH_done (by kernel_rfl) ?_ _
      refine NoPanic.normal ?_
      have q1 := (Below.refl W.heap.size W).drew
      have q2 := q1.trans (g1.mono q1.size)
      have q3 := q2.trans (g2.mono q2.size)
      have e0 := c0.kept q3
      have e1 := c1.kept q3
      have hin10 := hin9.below q3
      have hB5 := bt hB4 q3
      clear hHeld c0 c1 hin8 hin9 hB4
      go_wp2_with (refine wpList_store_blk rfl 23 (.tmp 2) (.tmp 69) rfl _ _ [.int .i64 0, .int .i64 0, .int .i64 0, .int .i64 0] rfl rfl e0 (by simp) hdr_size hdr_one ?_; intro w10 h10 ht10)
      exact ret_hdr3 Try.results15 rfl h10 rfl ⟨.inl ⟨HFA.out, rfl⟩, ht10.below hB5 (by omega)⟩
    | true =>
      have HTA : Hid (decOk P = true) := by show _ = _; rw [HDI2.out, HCB.out, hx]; rfl
      rw [hx] at hse
      clear hx
      go_wp2_with fail
      refine wp_region_noPanic ?_
      refine wp_region_held_drew (S := fun w' => Blk w' G1 23 [.int .i64 k0, .int .i64 k1, .int .i64 k2, .int .i64 k3] ∧ In w' (some ⟨b, q, none⟩) 28 (c2 - 256) (x28 P)) (by kernel_rfl) ⟨c1.drew, hin8.below ((Below.refl _ _).drew)⟩ (fun hHeld => ?_)
      refine wpAnyH_take (i := 0) (v := .agg ([.int .i64 k0, .int .i64 k1, .int .i64 k2, .int .i64 k3]).toArray) rfl (by kernel_rfl) (by kernel_rfl) (by kernel_rfl) (fun _ _ _ h => h) (yieldsIf_load_mid (by rfl) _ _ rfl (G1) 0 rfl ([.int .i64 k0, .int .i64 k1, .int .i64 k2, .int .i64 k3]) _ (fun w hSw => hSw.1.range 0 4 _ rfl) Try.underlying23 rfl hdr_size) hHeld ?_
      try simp only [Act.put, List.getElem_toArray, List.getElem_cons_succ, List.getElem_cons_zero, List.setIfInBounds_toArray, List.set_cons_zero, List.set_cons_succ]
      refine wpAnyH_ready (rs := [1]) (by kernel_rfl) (by simp) ?_
      refine AllReadyH.cons rfl (fun K hK => ?_) AllReadyH.nil
      go_simp
      refine (qcheck_any k0 k1 k2 k3 _).mono ?_
      rintro e w6 ⟨rfl, g1⟩
      rw [HCE.out]
      try go_wp2_with fail
      refine hK.out _ _ ⟨hHeld.1.kept g1, hHeld.2.below g1⟩ (fun hHeld => ?_)
      clear hK K
      try simp only [Act.put, List.getElem_toArray, List.getElem_cons_succ, List.getElem_cons_zero, List.setIfInBounds_toArray, List.set_cons_zero, List.set_cons_succ]
      refine wpAnyH_take (i := 2) (v := ?_) rfl (by kernel_rfl) (by kernel_rfl) (by kernel_rfl) (fun _ _ _ h => h) (Or.inl ⟨by rfl, ?_⟩) hHeld ?_
      rotate_left
      · intro w hSw; try dsimp only at hSw
        go_simp; try (with_reducible rfl)
      try simp only [Act.put, List.getElem_toArray, List.getElem_cons_succ, List.getElem_cons_zero, List.setIfInBounds_toArray, List.set_cons_zero, List.set_cons_succ]
      refine wpAnyH_take (i := 3) (v := ?_) rfl (by kernel_rfl) (by kernel_rfl) (by kernel_rfl) (fun _ _ _ h => h) (Or.inl ⟨by rfl, ?_⟩) hHeld ?_
      rotate_left
      · intro w hSw; try dsimp only at hSw
        go_simp; try (with_reducible rfl)
      try simp only [Act.put, List.getElem_toArray, List.getElem_cons_succ, List.getElem_cons_zero, List.setIfInBounds_toArray, List.set_cons_zero, List.set_cons_succ]
      refine wpAnyH_take (i := 4) (v := .agg ([.int .i64 k0, .int .i64 k1, .int .i64 k2, .int .i64 k3]).toArray) rfl (by kernel_rfl) (by kernel_rfl) (by kernel_rfl) (fun _ _ _ h => h) (yieldsIf_load_mid (by rfl) _ _ rfl (G1) 0 rfl ([.int .i64 k0, .int .i64 k1, .int .i64 k2, .int .i64 k3]) _ (fun w hSw => hSw.1.range 0 4 _ rfl) Try.underlying23 rfl hdr_size) hHeld ?_
      try simp only [Act.put, List.getElem_toArray, List.getElem_cons_succ, List.getElem_cons_zero, List.setIfInBounds_toArray, List.set_cons_zero, List.set_cons_succ]
      refine wpAnyH_take (i := 7) (v := ?_) rfl (by kernel_rfl) (by kernel_rfl) (by kernel_rfl) (fun _ _ _ h => h) (Or.inl ⟨by rfl, ?_⟩) hHeld ?_
      rotate_left
      · intro w hSw; try dsimp only at hSw
        go_simp; try (with_reducible rfl)
      try simp only [Act.put, List.getElem_toArray, List.getElem_cons_succ, List.getElem_cons_zero, List.setIfInBounds_toArray, List.set_cons_zero, List.set_cons_succ]
      refine wpAnyH_take (i := 8) (v := ?_) rfl (by kernel_rfl) (by kernel_rfl) (by kernel_rfl) (fun _ _ _ h => h) (Or.inl ⟨by rfl, ?_⟩) hHeld ?_
      rotate_left
      · intro w hSw; try dsimp only at hSw
        have hcx := conv_in hSw.2
        go_simp; try (with_reducible rfl)
      try simp only [Act.put, List.getElem_toArray, List.getElem_cons_succ, List.getElem_cons_zero, List.setIfInBounds_toArray, List.set_cons_zero, List.set_cons_succ]
      refine wpAnyH_ready (rs := [5]) (by kernel_rfl) (by simp) ?_
      refine AllReadyH.cons rfl (fun K hK => ?_) AllReadyH.nil
      go_simp
      refine (qheader_any k0 k1 k2 k3 _ HCB.out).mono ?_
      rintro e w7 ⟨p7, c7, rfl, hin11, g2⟩
      try go_wp2_with fail
      refine hK.out _ _ ⟨hHeld.1.kept g2, hHeld.2.below g2⟩ (fun hHeld => ?_)
      clear hK K
      try simp only [Act.put, List.getElem_toArray, List.getElem_cons_succ, List.getElem_cons_zero, List.setIfInBounds_toArray, List.set_cons_zero, List.set_cons_succ]
      have hcv := conv_in hin11
      refine wpAnyH_ready (rs := [6]) (by kernel_rfl) (by simp) ?_
      refine AllReadyH.cons rfl (fun K hK => ?_) AllReadyH.nil
      go_simp
      refine hK.out _ _ hHeld (fun hHeld => ?_)
      clear hK K
      try simp only [Act.put, List.getElem_toArray, List.getElem_cons_succ, List.getElem_cons_zero, List.setIfInBounds_toArray, List.set_cons_zero, List.set_cons_succ]
      refine wpAnyH_take (i := 9) (v := ?_) rfl (by kernel_rfl) (by kernel_rfl) (by kernel_rfl) (fun _ _ _ h => h) (Or.inl ⟨by rfl, ?_⟩) hHeld ?_
      rotate_left
      · intro w hSw; try dsimp only at hSw
        go_simp; try (with_reducible rfl)
      try simp only [Act.put, List.getElem_toArray, List.getElem_cons_succ, List.getElem_cons_zero, List.setIfInBounds_toArray, List.set_cons_zero, List.set_cons_succ]
      refine wpAnyH_take (i := 10) (v := ?_) rfl (by kernel_rfl) (by kernel_rfl) (by kernel_rfl) (fun _ _ _ h => h) (Or.inl ⟨by rfl, ?_⟩) hHeld ?_
      rotate_left
      · intro w hSw; try dsimp only at hSw
        go_simp; try (with_reducible rfl)
      try simp only [Act.put, List.getElem_toArray, List.getElem_cons_succ, List.getElem_cons_zero, List.setIfInBounds_toArray, List.set_cons_zero, List.set_cons_succ]
      refine wpAnyH_done (by kernel_rfl) ?_ _
      refine NoPanic.normal ?_
      have q1 := (Below.refl W.heap.size W).drew
      have q2 := q1.trans (g1.mono q1.size)
      have q3 := q2.trans (g2.mono q2.size)
      have e0 := c0.kept q3
      have e1 := c1.kept q3
      have hin10 := hin9.below q3
      have hB5 := bt hB4 q3
      clear hHeld c0 c1 hin8 hin9 hB4
      go_wp2_with fail
      refine wp_region_noPanic ?_
      refine wp_region_held_drew (S := fun w' => Blk w' G1 23 [.int .i64 k0, .int .i64 k1, .int .i64 k2, .int .i64 k3]) (by kernel_rfl) e1.drew (fun hHeld => ?_)
      refine wpAnyH_take (i := 0) (v := .agg ([.int .i64 k0, .int .i64 k1, .int .i64 k2, .int .i64 k3]).toArray) rfl (by kernel_rfl) (by kernel_rfl) (by kernel_rfl) (fun _ _ _ h => h) (yieldsIf_load_mid (by rfl) _ _ rfl (G1) 0 rfl ([.int .i64 k0, .int .i64 k1, .int .i64 k2, .int .i64 k3]) _ (fun w hSw => hSw.range 0 4 _ rfl) Try.underlying23 rfl hdr_size) hHeld ?_
      try simp only [Act.put, List.getElem_toArray, List.getElem_cons_succ, List.getElem_cons_zero, List.setIfInBounds_toArray, List.set_cons_zero, List.set_cons_succ]
      refine wpAnyH_take (i := 1) (v := ?_) rfl (by kernel_rfl) (by kernel_rfl) (by kernel_rfl) (fun _ _ _ h => h) (Or.inl ⟨by rfl, ?_⟩) hHeld ?_
      rotate_left
      · intro w hSw; try dsimp only at hSw
        go_simp; try (with_reducible rfl)
      try simp only [Act.put, List.getElem_toArray, List.getElem_cons_succ, List.getElem_cons_zero, List.setIfInBounds_toArray, List.set_cons_zero, List.set_cons_succ]
      refine wpAnyH_take (i := 2) (v := ?_) rfl (by kernel_rfl) (by kernel_rfl) (by kernel_rfl) (fun _ _ _ h => h) (Or.inl ⟨by rfl, ?_⟩) hHeld ?_
      rotate_left
      · intro w hSw; try dsimp only at hSw
        go_simp; try (with_reducible rfl)
      try simp only [Act.put, List.getElem_toArray, List.getElem_cons_succ, List.getElem_cons_zero, List.setIfInBounds_toArray, List.set_cons_zero, List.set_cons_succ]
      refine wpAnyH_ready (rs := [3]) (by kernel_rfl) (by simp) ?_
      refine AllReadyH.cons rfl (fun K hK => ?_) AllReadyH.nil
      rw [if_pos (by rfl)]
      refine wp_store_blk 23 (.tmp 2) (.tmp 70) rfl _ 0 [.int .i64 k0, .int .i64 k1, .int .i64 k2, .int .i64 k3] rfl rfl e0.drew (by simp) hdr_size hdr_one ?_
      intro w12 h12 ht12
      refine hK.out _ _ (e1.drew.turned ht12 (by omega)) (fun hHeld => ?_)
      clear hK K
      try simp only [Act.put, List.getElem_toArray, List.getElem_cons_succ, List.getElem_cons_zero, List.setIfInBounds_toArray, List.set_cons_zero, List.set_cons_succ]
      refine wpAnyH_take (i := 4) (v := ?_) rfl (by kernel_rfl) (by kernel_rfl) (by kernel_rfl) (fun _ _ _ h => h) (Or.inl ⟨by rfl, ?_⟩) hHeld ?_
      rotate_left
      · intro w hSw; try dsimp only at hSw
        go_simp; try (with_reducible rfl)
      try simp only [Act.put, List.getElem_toArray, List.getElem_cons_succ, List.getElem_cons_zero, List.setIfInBounds_toArray, List.set_cons_zero, List.set_cons_succ]
      refine wpAnyH_take (i := 5) (v := ?_) rfl (by kernel_rfl) (by kernel_rfl) (by kernel_rfl) (fun _ _ _ h => h) (Or.inl ⟨by rfl, ?_⟩) hHeld ?_
      rotate_left
      · intro w hSw; try dsimp only at hSw
        go_simp; try (with_reducible rfl)
      try simp only [Act.put, List.getElem_toArray, List.getElem_cons_succ, List.getElem_cons_zero, List.setIfInBounds_toArray, List.set_cons_zero, List.set_cons_succ]
      refine wpAnyH_done (by kernel_rfl) ?_ _
      refine NoPanic.normal ?_
      go_wp2
      have hin13 : In w12 (some ⟨b, o, none⟩) 256 c2 (P.take 256) := by
        have h1 := hin10.front 256 (by decide)
        rw [HT2.out] at h1
        have hne := in_not_hdr hin10 e0
        exact (h1.below ((Below.refl _ _).drew)).same (by rw [ht12.size]; exact Nat.le_refl _) (fun a h0 ha _ => ht12.block _ (by cases ha; exact hne))
      refine ret_hdr3 Try.results15 rfl h12 rfl ⟨.inr ⟨HTA.out, some ⟨b, o, none⟩, c2, ?_, hin13⟩, ht12.below hB5.drew (by omega)⟩
      rw [HPK.out.1, HPK.out.2.1, HPK.out.2.2.1, HPK.out.2.2.2]
      rfl
theorem qdecode_any (P : List Nat) (hP : IsP P) (w : World) :
    Calls Try.prog 15 #[.agg (vals P).toArray] w fun e w' => ((decE P ≠ 0 ∧ e = .returned (.tuple #[.agg #[.int .i64 0, .int .i64 0, .int .i64 0, .int .i64 0], .slice none 0 0, .int .i64 (decE P)])) ∨
      (decE P = 0 ∧ ∃ p c, e = .returned (.tuple #[.agg #[.int .i64 (hv0 P), .int .i64 (hv1 P), .int .i64 (hv2 P), .int .i64 (hv3 P)], .slice p 256 c, .int .i64 0]) ∧ In w' p 256 c (P.take 256))) ∧ Below w.heap.size w w' := by
  by_cases hs : stateL P = 0
  · refine (qdecode_good P hP w hs).mono ?_
    rintro e w' ⟨h, hb⟩
    refine ⟨?_, hb⟩
    rcases h with ⟨h1, rfl⟩ | ⟨h1, h2⟩
    · have e1 : decE P = 30 := by unfold decE; rw [if_pos hs, h1]; rfl
      exact .inl ⟨by rw [e1]; decide, by rw [e1]⟩
    · have e1 : decE P = 0 := by unfold decE; rw [if_pos hs, h1]; rfl
      exact .inr ⟨e1, h2⟩
  · refine (qdecode_bad P hP w hs).mono ?_
    rintro e w' ⟨rfl, hb⟩
    have e1 : decE P = stateL P := by unfold decE; rw [if_neg hs]
    exact ⟨.inl ⟨by rw [e1]; exact hs, by rw [e1]⟩, hb⟩
end Go.Proofs.Ytmagcohdhljaeaa
