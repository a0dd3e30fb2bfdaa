/-
  P9.6 and P9.7: the law, walked.
-/
import Derived.Test.YtbnnekpglnnneaaDkOf
namespace Go.Proofs.Ytbnnekpglnnneaa
open Go.RowKit
/-- A disk that can be read: its image is its sectors. -/
theorem img_of {s : DS} {Ds : List (List Nat)} (hon : s.on = true) (hs : s.secs = Ds.map (fun D => (D, false))) : imgE s = 0 ∧ imgD s = Ds := by
  have hr : ∀ i, i < s.secs.length → readE s (i : Int) = 0 ∧ readD s (i : Int) = Ds.getD i [] := by
    intro i hi
    have hi' : i < Ds.length := by rw [hs, List.length_map] at hi; exact hi
    have hx : s.secs[i]? = some (Ds[i], false) := by rw [hs, List.getElem?_map, List.getElem?_eq_getElem hi']; rfl
    have e1 : readE s (i : Int) = 0 := by rw [readE_at hon hx]; rfl
    exact ⟨e1, by rw [readD_at hon hx rfl, List.getD_eq_getElem?_getD, List.getElem?_eq_getElem hi']; rfl⟩
  have hl : s.secs.length = Ds.length := by rw [hs, List.length_map]
  refine ⟨imgE_zero (fun x hx => ?_), ?_⟩
  · obtain ⟨i, hi, rfl⟩ := List.mem_map.1 hx
    exact (hr i (List.mem_range.1 hi)).1
  · rw [imgD, rdL, List.map_map]
    have e : (List.range s.secs.length).map ((fun x : List Nat × Int => x.1) ∘ fun i : Nat => (readD s (i : Int), readE s (i : Int))) = (List.range Ds.length).map (fun i => Ds.getD i []) := by
      rw [← hl]
      apply List.map_congr_left
      intro i hi
      exact (hr i (List.mem_range.1 hi)).2
    rw [e]
    apply List.ext_getElem?
    intro i
    by_cases hi : i < Ds.length
    · simp [hi, List.getD_eq_getElem?_getD]
    · simp [hi]
def b35 : List Nat := cyc [3, 5] 256
theorem b35_length : b35.length = 256 := cyc_length _ _
theorem back_eq (Ds : List (List Nat)) (k : Nat) (y b : List Nat) (h : Ds[k]? = some y) : (Ds.set k b == Ds) = (b == y) := by
  have hk : k < Ds.length := (List.getElem?_eq_some_iff.1 h).1
  by_cases e : b = y
  · have : Ds.set k b = Ds := by
      apply List.ext_getElem?
      intro i
      rw [List.getElem?_set]
      by_cases hi : k = i
      · rw [if_pos hi, if_pos hk, ← hi, h, e]
      · rw [if_neg hi]
    rw [this, e]; simp
  · have : Ds.set k b ≠ Ds := by
      intro q
      have h1 : (Ds.set k b)[k]? = some b := by rw [List.getElem?_set, if_pos rfl, if_pos hk]
      rw [q, h] at h1
      exact e (Option.some.inj h1).symm
    rw [beq_eq_false_iff_ne.2 e, beq_eq_false_iff_ne.2 this]
set_option linter.unusedSimpArgs false in
set_option maxRecDepth 100000 in
set_option maxHeartbeats 4000000 in
theorem back_walk (p : Option Addr) (n c : Nat) (rs : List SR) (Ds : List (List Nat)) (i : Int) (w : World) (hi : -9223372036854775808 ≤ i ∧ i ≤ 9223372036854775807) (hnb : (n : Int) ≤ 140737488355328) (ha : RdB w p n c rs Ds) :
    Calls Try.prog 5 #[.slice p n c, .int .i64 i] w fun e w' => e = .returned (.bool true) ∧ Below w.heap.size w w' := by
  by_cases h64 : 64 < n
  · have hni : (64 : Int) < (n : Int) := by omega
    go_enter Try.func5, Try.ntmps5
    go_wp2_with (go_at_call 7; refine (live_any _).mono ?_; rintro e w1 ⟨rfl, hb1⟩)
    go_ret
    exact ⟨rfl, hb1⟩
  · have hni : ¬ (64 : Int) < (n : Int) := by omega
    have hn64 : (n : Int) ≤ 64 := by omega
    have la := ha.each.len
    have lra := ha.len
    have HL : Hid (Ds.length = n) := by show _ = _; omega
    clear la
    cases hok : ofOk Ds
    · have HK : Hid (ofOk Ds = false) := hok
      clear hok
      go_enter Try.func5, Try.ntmps5
      go_wp2_with (first
        | (go_at_call 7; refine (live_any _).mono ?_; rintro e w1 ⟨rfl, hb1⟩)
        | (go_at_call 24; refine (of_any (ha.below hb1) (by omega)).mono ?_; rintro e w2 ⟨hb2, (⟨hx, _⟩ | ⟨_, rfl⟩)⟩; exact absurd (HK.out.symm.trans hx) (by decide))
        | (go_at_call 25; refine (rof_any ((ha.below hb1).below hb2) (by omega)).mono ?_; rintro e w3 ⟨hb3, (⟨hx, _⟩ | ⟨_, rfl⟩)⟩; exact absurd (HK.out.symm.trans hx) (by decide)))
      go_ret
      exact ⟨rfl, bt (bt hb1 hb2) hb3⟩
    · have HK : Hid (ofOk Ds = true) := hok
      clear hok
      have hn0 : 0 < n := by
        have := HK.out
        rw [ofOk, Bool.and_eq_true] at this
        have h1 := this.1
        simp [HL.out] at h1
        omega
      go_enter Try.func5, Try.ntmps5
      go_wp2_with (first
        | (go_at_call 7; refine (live_any _).mono ?_; rintro e w1 ⟨rfl, hb1⟩)
        | (go_at_call 24; refine (of_any (ha.below hb1) (by omega)).mono ?_; rintro e w2 ⟨hb2, (⟨_, d, sb, rfl, hd2, hs2, D2⟩ | ⟨hx, _⟩)⟩; rotate_left; exact absurd (HK.out.symm.trans hx) (by decide))
        | (go_at_call 25; refine (rof_any ((ha.below hb1).below hb2) (by omega)).mono ?_; rintro e w3 ⟨hb3, (⟨_, r, V, rfl, R3⟩ | ⟨hx, _⟩)⟩; rotate_left; exact absurd (HK.out.symm.trans hx) (by decide)))
      have D3 := D2.below hb3
      have hB3 := bt (bt hb1 hb2) hb3
      have hI := img_of (s := ofD Ds) rfl rfl
      have hIm := image_any D3
      rw [hI.1, hI.2] at hIm
      unfold ramI at hIm
      refine hIm.mono ?_
      rintro e w4 ⟨b4, (⟨_, v4, rs4, rfl, ow4, ea4, _⟩ | ⟨h, _⟩)⟩
      case inr => exact absurd rfl h
      obtain ⟨p4, c4, rfl, rd4⟩ := rdB_of ow4 ea4
      have D4 := D3.below b4
      have hB4 := bt hB3 b4
      clear hIm ow4 D2 D3 hb1 hb2 hb3 hB3 R3 hd2 hs2
      go_wp2_with fail
      refine (cloneD_any D4).mono ?_
      rintro e w5 ⟨b5, d2, sb2, lv2, cap, sp, rfl, hF2, C5⟩
      have D5 := D4.below b5
      have hB5 := bt hB4 b5
      have hlen4 : rs4.length ≤ 100000 := by have := ea4.len; rw [HL.out] at this; omega
      have hs5 := sameImage_any (rd4.below b5) (ha.below hB5) hlen4
      rw [show (Ds == Ds) = true from by simp] at hs5
      have hlt4 : ∀ k, fpD d sb (.slice none 0 0) k → k < w4.heap.size := fun k hk => D4.lt hk
      have hap : ∀ k, fpD d sb (.slice none 0 0) k → ¬ fpD d2 sb2 lv2 k := fun k h1 h2 => by have a1 := hlt4 k h1; have a2 := hF2 k h2; omega
      have hI2 := img_of (s := { ofD Ds with cap := cap, sp := sp }) (Ds := Ds) rfl rfl
      go_wp2_with (go_at_call 17; refine hs5.mono ?_; rintro e w6 ⟨rfl, b6⟩)
      have C6 := C5.below b6
      have D6 := D5.below b6
      have hB6 := bt hB5 b6
      have hsm6 := same_any C6 D6 hI2.1 hI.1
      rw [hI2.2, hI.2, show (Ds == Ds) = true from by simp] at hsm6
      unfold ramI at hsm6
      clear hs5 rd4 ea4 D4 D5 C5 hlt4
      refine hsm6.mono ?_
      rintro e w7 ⟨rfl, b7⟩
      have C7 := C6.below b7
      have D7 := D6.below b7
      have hB7 := bt hB6 b7
      clear hsm6 C6 D6 hB6
      go_wp2_with fail
      have hlit : In (w7.alloc (.cells #[.int .u8 3, .int .u8 5] 5)) (some ⟨w7.heap.size, 0, none⟩) 2 2 [3, 5] := in_lit w7 (by rfl) rfl (by simp) (by omega)
      have ba := below_alloc w7 (.cells #[.int .u8 3, .int .u8 5] 5)
      have hrep := repeat_small [3, 5] w7.heap.size 0 2 2 128 256 (by omega) (by omega) rfl (by omega) _ hlit
      refine hrep.mono ?_
      rintro e w8 ⟨rfl, hin8, b8'⟩
      have b8 := bt ba b8'
      have C8 := C7.below b8
      have D8 := D7.below b8
      have hB8 := bt hB7 b8
      have hgb : ∀ k, fpD d2 sb2 lv2 k → k ≠ (w7.alloc (.cells #[.int .u8 3, .int .u8 5] 5)).heap.size := fun k hk => by have a1 := C7.lt hk; simp; omega
      generalize (w7.alloc (.cells #[.int .u8 3, .int .u8 5] 5)).heap.size = g at *
      clear hrep hlit ba b8' C7 D7 hB7 b7 b6
      have hin8' : In w8 (some ⟨g, 0, none⟩) 256 256 b35 := hin8
      clear hin8
      obtain ⟨y0, hy0⟩ : ∃ y, Ds[0]? = some y := ⟨_, List.getElem?_eq_getElem (by rw [HL.out]; exact hn0)⟩
      have hx0 : (ofD Ds).secs[0]? = some (y0, false) := by show (Ds.map (fun D => (D, false)))[0]? = _; rw [List.getElem?_map, hy0]; rfl
      have hr0 : readE (ofD Ds) 0 = 0 := readE_at (k := 0) rfl hx0
      have hr1 : readD (ofD Ds) 0 = y0 := readD_at (k := 0) rfl hx0 rfl
      have hy0l : y0.length = 256 := (D8.okS _ (List.mem_of_getElem? hx0)).1
      have hrd8 := read_any D8 0
      rw [hr0, hr1, hy0l] at hrd8
      go_wp2_with fail
      refine hrd8.mono ?_
      rintro e w9 ⟨p9, c9, rfl, hin9, b9, hwas⟩
      have hlt2 : ∀ k, fpD d2 sb2 lv2 k → k < w8.heap.size := fun k hk => C8.lt hk
      have C9 := C8.below b9
      have D9 := D8.below b9
      have hB9 := bt hB8 b9
      have hinb9 := hin8'.below b9
      have hwr := write_any C9 i _ 256 256 b35 hinb9 (by show (0 : Nat) < 1024; omega)
      clear hrd8 C8 D8 hB8 hin8'
      cases hb : hasB n i
      · have hb' : hasB ({ ofD Ds with cap := cap, sp := sp } : DS).secs.length i = false := by show hasB (Ds.map (fun D => (D, false))).length i = false; rw [List.length_map, HL.out]; exact hb
        have e1 : writeE { ofD Ds with cap := cap, sp := sp } i 256 = 1 := by unfold writeE; rw [if_neg (by show ¬ (true = false); decide), if_pos (.inl hb')]
        rw [e1] at hwr
        go_wp2_with fail
        refine hwr.mono ?_
        rintro e w10 ⟨rfl, lv10, A10⟩
        have hB10 := hB9.trans (A10.keep.below hB9.size (fun k hk => Nat.le_trans hB4.size (hF2 k hk)))
        by_cases hneg : i < 0
        · go_wp2_with fail
          go_ret
          exact ⟨rfl, hB10⟩
        · have hge : (n : Int) ≤ i := by simp [hasB] at hb; omega
          go_wp2_with fail
          go_ret
          exact ⟨rfl, hB10⟩
      · obtain ⟨k, rfl, hk⟩ := hasB_nat hb
        have hb' : hasB ({ ofD Ds with cap := cap, sp := sp } : DS).secs.length (k : Int) = true := by show hasB (Ds.map (fun D => (D, false))).length (k : Int) = true; rw [List.length_map, HL.out]; exact hb
        have e1 : writeE { ofD Ds with cap := cap, sp := sp } (k : Int) 256 = 0 := by
          unfold writeE
          rw [if_neg (by show ¬ (true = false); decide), if_neg (by rw [hb']; simp), if_neg (by show ¬ ((-1 : Int) = 0); decide)]
        have e2 : writeS { ofD Ds with cap := cap, sp := sp } (k : Int) b35 = putS { ofD Ds with cap := cap, sp := sp } k b35 := by
          unfold writeS
          rw [if_neg (by show ¬ (true = false); decide), if_neg (by rw [hb', b35_length]; simp), if_neg (by show ¬ ((-1 : Int) = 0); decide)]
          rfl
        rw [e1, e2] at hwr
        obtain ⟨bi, oi, rfl, hbl, fi⟩ := ha.at' hn0
        obtain ⟨x, hx⟩ : ∃ x, rs[k]? = some x := ⟨_, List.getElem?_eq_getElem (by omega)⟩
        obtain ⟨y, hy⟩ : ∃ y, Ds[k]? = some y := ⟨_, List.getElem?_eq_getElem (by rw [HL.out]; exact hk)⟩
        have hki : (k : Int) < (n : Int) := by omega
        go_wp2_with fail
        refine hwr.mono ?_
        rintro e w10 ⟨rfl, lv10, A10⟩
        have hB10 := hB9.trans (A10.keep.below hB9.size (fun k hk => Nat.le_trans hB4.size (hF2 k hk)))
        have D10 := D9.keep A10.keep hap
        have C10 := A10.disk
        have hin10 := hinb9.after A10 (fun a ha => by cases ha; exact fun e => hgb _ e rfl)
        have hin9' : In w10 p9 256 c9 y0 := hin9.after A10 (fun a ha hf => by
          have h1 := hwas a (by omega) ha
          have h2 := hlt2 _ hf
          omega)
        have hrd10 := read_any D10 0
        rw [hr0, hr1, hy0l] at hrd10
        go_wp2_with fail
        refine hrd10.mono ?_
        rintro e w11 ⟨p11, c11, rfl, hin11n, b11, _⟩
        have hB11 := bt hB10 b11
        have hin11 := hin10.below b11
        have D11 := D10.below b11
        have C11 := C10.below b11
        have ci := (hB11.cell (p := ⟨bi, oi + k, none⟩) hbl).trans (fi k x hx)
        unfold srV at ci
        have ix := (ha.each.each k x y hx hy).below hB11
        have hq1 := equal_any p9 p11 256 c9 256 c11 y0 y0 w11.drew ((hin9'.below b11).below ((Below.refl _ _).drew)) (hin11n.below ((Below.refl _ _).drew))
        rw [show (y0 == y0) = true from by simp] at hq1
        have hI3 := img_of (s := putS { ofD Ds with cap := cap, sp := sp } k b35) (Ds := Ds.set k b35) rfl (by show (Ds.map (fun D => (D, false))).set k (b35, false) = _; rw [List.map_set])
        have hsm := same_any (C11.below ((Below.refl _ _).drew)) (D11.below ((Below.refl _ _).drew)) hI3.1 hI.1
        rw [hI3.2, hI.2, back_eq Ds k y b35 hy] at hsm
        unfold ramI at hsm
        clear fi hx hy hwr hrd10 C10 D10 hin10 C11 D11 C9 D9
        go_wp2_with fail
        refine wp_region_noPanic ?_
        refine wp_region_held_drew (S := fun X => X.cell? ⟨bi, oi + k, none⟩ = some (.slice x.p x.n x.c) ∧ Below w.heap.size w X) (by kernel_rfl) ⟨ci, hB11.drew⟩ (fun hHeld => ?_)
        refine wpAnyH_take (i := 0) (v := ?_) rfl (by kernel_rfl) (by kernel_rfl) (by kernel_rfl) (fun _ _ _ h => h) (Or.inl ⟨by rfl, ?_⟩) hHeld ?_
        rotate_left
        · intro w' hSw; try dsimp only at hSw
          obtain ⟨s1, s2⟩ := hSw
          go_simp; try (with_reducible rfl)
        try simp only [Act.put, List.getElem_toArray, List.getElem_cons_succ, List.getElem_cons_zero, List.setIfInBounds_toArray, List.set_cons_zero, List.set_cons_succ]
        refine wpAnyH_take (i := 1) (v := ?_) rfl (by kernel_rfl) (by kernel_rfl) (by kernel_rfl) (fun _ _ _ h => h) (Or.inl ⟨by rfl, ?_⟩) hHeld ?_
        rotate_left
        · intro w' hSw; try dsimp only at hSw
          obtain ⟨s1, s2⟩ := hSw
          go_simp; try (with_reducible rfl)
        try simp only [Act.put, List.getElem_toArray, List.getElem_cons_succ, List.getElem_cons_zero, List.setIfInBounds_toArray, List.set_cons_zero, List.set_cons_succ]
        refine wpAnyH_ready (rs := [2]) (by kernel_rfl) (by simp) ?_
        refine AllReadyH.cons rfl (fun K hK => ?_) AllReadyH.nil
        go_simp
        refine (hq1).mono ?_
        rintro e w' ⟨rfl, hw'⟩
        have hw2 := hw'.symm
        subst hw2
        clear hw'
        try go_wp2_with fail
        refine hK.out _ _ hHeld (fun hHeld => ?_)
        clear hK K
        try simp only [Act.put, List.getElem_toArray, List.getElem_cons_succ, List.getElem_cons_zero, List.setIfInBounds_toArray, List.set_cons_zero, List.set_cons_succ]
        refine wpAnyH_take (i := 3) (v := ?_) rfl (by kernel_rfl) (by kernel_rfl) (by kernel_rfl) (fun _ _ _ h => h) (Or.inl ⟨by rfl, ?_⟩) hHeld ?_
        rotate_left
        · intro w' hSw; try dsimp only at hSw
          obtain ⟨s1, s2⟩ := hSw
          go_simp; try (with_reducible rfl)
        try simp only [Act.put, List.getElem_toArray, List.getElem_cons_succ, List.getElem_cons_zero, List.setIfInBounds_toArray, List.set_cons_zero, List.set_cons_succ]
        refine wpAnyH_take (i := 4) (v := ?_) rfl (by kernel_rfl) (by kernel_rfl) (by kernel_rfl) (fun _ _ _ h => h) (Or.inl ⟨by rfl, ?_⟩) hHeld ?_
        rotate_left
        · intro w' hSw; try dsimp only at hSw
          obtain ⟨s1, s2⟩ := hSw
          go_simp; try (with_reducible rfl)
        try simp only [Act.put, List.getElem_toArray, List.getElem_cons_succ, List.getElem_cons_zero, List.setIfInBounds_toArray, List.set_cons_zero, List.set_cons_succ]
        refine wpAnyH_take (i := 5) (v := ?_) rfl (by kernel_rfl) (by kernel_rfl) (by kernel_rfl) (fun _ _ _ h => h) (Or.inl ⟨by rfl, ?_⟩) hHeld ?_
        rotate_left
        · intro w' hSw; try dsimp only at hSw
          obtain ⟨s1, s2⟩ := hSw
          go_simp; try (with_reducible rfl)
        try simp only [Act.put, List.getElem_toArray, List.getElem_cons_succ, List.getElem_cons_zero, List.setIfInBounds_toArray, List.set_cons_zero, List.set_cons_succ]
        refine wpAnyH_take (i := 6) (v := ?_) rfl (by kernel_rfl) (by kernel_rfl) (by kernel_rfl) (fun _ _ _ h => h) (Or.inl ⟨by rfl, ?_⟩) hHeld ?_
        rotate_left
        · intro w' hSw; try dsimp only at hSw
          obtain ⟨s1, s2⟩ := hSw
          go_simp; try (with_reducible rfl)
        try simp only [Act.put, List.getElem_toArray, List.getElem_cons_succ, List.getElem_cons_zero, List.setIfInBounds_toArray, List.set_cons_zero, List.set_cons_succ]
        refine wpAnyH_take (i := 7) (v := ?_) rfl (by kernel_rfl) (by kernel_rfl) (by kernel_rfl) (fun _ _ _ h => h) (Or.inl ⟨by rfl, ?_⟩) hHeld ?_
        rotate_left
        · intro w' hSw; try dsimp only at hSw
          obtain ⟨s1, s2⟩ := hSw
          go_simp; try (with_reducible rfl)
        try simp only [Act.put, List.getElem_toArray, List.getElem_cons_succ, List.getElem_cons_zero, List.setIfInBounds_toArray, List.set_cons_zero, List.set_cons_succ]
        refine wpAnyH_take (i := 9) (v := ?_) rfl (by kernel_rfl) (by kernel_rfl) (by kernel_rfl) (fun _ _ _ h => h) (Or.inl ⟨by rfl, ?_⟩) hHeld ?_
        rotate_left
        · intro w' hSw; try dsimp only at hSw
          obtain ⟨s1, s2⟩ := hSw
          go_simp; try (with_reducible rfl)
        try simp only [Act.put, List.getElem_toArray, List.getElem_cons_succ, List.getElem_cons_zero, List.setIfInBounds_toArray, List.set_cons_zero, List.set_cons_succ]
        refine wpAnyH_take (i := 10) (v := ?_) rfl (by kernel_rfl) (by kernel_rfl) (by kernel_rfl) (fun _ _ _ h => h) (Or.inl ⟨by rfl, ?_⟩) hHeld ?_
        rotate_left
        · intro w' hSw; try dsimp only at hSw
          obtain ⟨s1, s2⟩ := hSw
          go_simp; try (with_reducible rfl)
        try simp only [Act.put, List.getElem_toArray, List.getElem_cons_succ, List.getElem_cons_zero, List.setIfInBounds_toArray, List.set_cons_zero, List.set_cons_succ]
        refine wpAnyH_take (i := 11) (v := ?_) rfl (by kernel_rfl) (by kernel_rfl) (by kernel_rfl) (fun _ _ _ h => h) (Or.inl ⟨by rfl, ?_⟩) hHeld ?_
        rotate_left
        · intro w' hSw; try dsimp only at hSw
          obtain ⟨s1, s2⟩ := hSw
          go_simp; try (with_reducible rfl)
        try simp only [Act.put, List.getElem_toArray, List.getElem_cons_succ, List.getElem_cons_zero, List.setIfInBounds_toArray, List.set_cons_zero, List.set_cons_succ]
        refine wpAnyH_take (i := 12) (v := ?_) rfl (by kernel_rfl) (by kernel_rfl) (by kernel_rfl) (fun _ _ _ h => h) (Or.inl ⟨by rfl, ?_⟩) hHeld ?_
        rotate_left
        · intro w' hSw; try dsimp only at hSw
          obtain ⟨s1, s2⟩ := hSw
          go_simp; try (with_reducible rfl)
        try simp only [Act.put, List.getElem_toArray, List.getElem_cons_succ, List.getElem_cons_zero, List.setIfInBounds_toArray, List.set_cons_zero, List.set_cons_succ]
        refine wpAnyH_take (i := 13) (v := ?_) rfl (by kernel_rfl) (by kernel_rfl) (by kernel_rfl) (fun _ _ _ h => h) (Or.inl ⟨by rfl, ?_⟩) hHeld ?_
        rotate_left
        · intro w' hSw; try dsimp only at hSw
          obtain ⟨s1, s2⟩ := hSw
          go_simp; try (with_reducible rfl)
        try simp only [Act.put, List.getElem_toArray, List.getElem_cons_succ, List.getElem_cons_zero, List.setIfInBounds_toArray, List.set_cons_zero, List.set_cons_succ]
        refine wpAnyH_ready (rs := [8]) (by kernel_rfl) (by simp) ?_
        refine AllReadyH.cons rfl (fun K hK => ?_) AllReadyH.nil
        go_simp
        refine (hsm).mono ?_
        rintro e w13 ⟨rfl, b13⟩
        have hq2 := equal_any _ _ 256 256 x.n x.c b35 y w13 (hin11.below (bt ((Below.refl _ _).drew) b13)) (ix.below (bt ((Below.refl _ _).drew) b13))
        try go_wp2_with fail
        refine hK.out _ _ ⟨(b13.cell (p := ⟨bi, oi + k, none⟩) (Nat.lt_of_lt_of_le hbl hHeld.2.size)).trans hHeld.1, bt hHeld.2 b13⟩ (fun hHeld => ?_)
        clear hK K
        try simp only [Act.put, List.getElem_toArray, List.getElem_cons_succ, List.getElem_cons_zero, List.setIfInBounds_toArray, List.set_cons_zero, List.set_cons_succ]
        refine wpAnyH_ready (rs := [14]) (by kernel_rfl) (by simp) ?_
        refine AllReadyH.cons rfl (fun K hK => ?_) AllReadyH.nil
        go_simp
        refine (hq2).mono ?_
        rintro e w' ⟨rfl, hw'⟩
        have hw2 := hw'.symm
        subst hw2
        clear hw'
        try go_wp2_with fail
        refine hK.out _ _ hHeld (fun hHeld => ?_)
        clear hK K
        try simp only [Act.put, List.getElem_toArray, List.getElem_cons_succ, List.getElem_cons_zero, List.setIfInBounds_toArray, List.set_cons_zero, List.set_cons_succ]
        refine wpAnyH_take (i := 15) (v := ?_) rfl (by kernel_rfl) (by kernel_rfl) (by kernel_rfl) (fun _ _ _ h => h) (Or.inl ⟨by rfl, ?_⟩) hHeld ?_
        rotate_left
        · intro w' hSw; try dsimp only at hSw
          obtain ⟨s1, s2⟩ := hSw
          go_simp; try (with_reducible rfl)
        try simp only [Act.put, List.getElem_toArray, List.getElem_cons_succ, List.getElem_cons_zero, List.setIfInBounds_toArray, List.set_cons_zero, List.set_cons_succ]
        refine wpAnyH_take (i := 16) (v := ?_) rfl (by kernel_rfl) (by kernel_rfl) (by kernel_rfl) (fun _ _ _ h => h) (Or.inl ⟨by rfl, ?_⟩) hHeld ?_
        rotate_left
        · intro w' hSw; try dsimp only at hSw
          obtain ⟨s1, s2⟩ := hSw
          go_simp; try (with_reducible rfl)
        try simp only [Act.put, List.getElem_toArray, List.getElem_cons_succ, List.getElem_cons_zero, List.setIfInBounds_toArray, List.set_cons_zero, List.set_cons_succ]
        refine wpAnyH_take (i := 17) (v := ?_) rfl (by kernel_rfl) (by kernel_rfl) (by kernel_rfl) (fun _ _ _ h => h) (Or.inl ⟨by rfl, ?_⟩) hHeld ?_
        rotate_left
        · intro w' hSw; try dsimp only at hSw
          obtain ⟨s1, s2⟩ := hSw
          go_simp; try (with_reducible rfl)
        try simp only [Act.put, List.getElem_toArray, List.getElem_cons_succ, List.getElem_cons_zero, List.setIfInBounds_toArray, List.set_cons_zero, List.set_cons_succ]
        refine wpAnyH_done (by kernel_rfl) ?_ _
        refine NoPanic.normal ?_
        go_wp2_with fail
        go_ret
        exact ⟨ret_bool (by simp), bt hB11.drew b13⟩
end Go.Proofs.Ytbnnekpglnnneaa
