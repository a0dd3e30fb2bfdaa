/-
  What Check answers.
-/
import Derived.Test.YthibaefoioeghaaPlLogs
namespace Go.Proofs.Ythibaefoioeghaa
open Go.RowKit
def okShape (T : Tab) : Bool := okSz T.pages T.logical T.k && decide ((T.data.length : Int) = T.logical) && decide ((T.have'.length : Int) = T.logical * T.pages) && decide ((T.logs.length : Int) ≤ T.k)
/-- Tables that may be. -/
def okT (T : Tab) : Bool := okShape T && (okBlocks T && okHv T.pages.toNat T.data T.have' && okSeq T && okLogs T T.pages.toNat)
def checkE (T : Tab) : Int := if okT T then 0 else 50
theorem okShape_iff {T : Tab} : okShape T = true ↔ ((4 ≤ T.pages ∧ T.pages ≤ 32) ∧ (1 ≤ T.logical ∧ T.logical ≤ 256) ∧ (1 ≤ T.k ∧ T.k ≤ 8)) ∧ (T.data.length : Int) = T.logical ∧ (T.have'.length : Int) = T.logical * T.pages ∧ (T.logs.length : Int) ≤ T.k := by
  simp only [okShape, Bool.and_eq_true, decide_eq_true_eq, okSz_iff]
  constructor
  · rintro ⟨⟨⟨h1, h2⟩, h3⟩, h4⟩; exact ⟨h1, h2, h3, h4⟩
  · rintro ⟨h1, h2, h3, h4⟩; exact ⟨⟨⟨h1, h2⟩, h3⟩, h4⟩
theorem checkE_no {T : Tab} (h : okShape T = false) : checkE T = 50 := by unfold checkE okT; rw [h]; rfl
theorem checkE_ok {T : Tab} (h : okT T = true) : checkE T = 0 := by unfold checkE; rw [h]; rfl
theorem checkE_bad {T : Tab} (h : okT T = false) : checkE T = 50 := by unfold checkE; rw [h]; rfl
theorem okT_shape {T : Tab} (h : okT T = true) : okShape T = true := by unfold okT at h; simp only [Bool.and_eq_true] at h; exact h.1
theorem prod_bound {l p : Int} (h1 : 1 ≤ l ∧ l ≤ 256) (h2 : 4 ≤ p ∧ p ≤ 32) : 0 ≤ l * p ∧ l * p ≤ 8192 :=
  ⟨Int.mul_nonneg (by omega) (by omega), Int.le_trans (Int.mul_le_mul (c := 256) (d := 32) (by omega) (by omega) (by omega) (by omega)) (by omega)⟩
set_option linter.unusedSimpArgs false in
set_option maxRecDepth 100000 in
set_option maxHeartbeats 8000000 in
theorem check_any (V : TabV) (T : Tab) (w : World) (h : TabIn w V T) :
    Calls Try.prog 19 #[.agg (tabA V T)] w fun e w' => e = .returned (.int .i64 (checkE T)) ∧ Below w.heap.size w w' := by
  have hb0 := below_alloc w (.cells (tabA V T) 28)
  have b0 := Blk.new' w 28 (tabA V T)
  have hT := h.below hb0
  have hsz := fun w => sizes_any T.pages T.logical T.k w
  have HLD : Hid (T.data.length = V.nd) := hT.data.len
  have HLH : Hid (T.have'.length = V.nh) := hT.have'.len
  have HLL : Hid (T.logs.length = V.nl) := hT.logs.len
  have HSH : Hid (okShape T = (okSz T.pages T.logical T.k && decide ((V.nd : Int) = T.logical) && decide ((V.nh : Int) = T.logical * T.pages) && decide ((V.nl : Int) ≤ T.k))) := by show _ = _; unfold okShape; rw [HLD.out, HLH.out, HLL.out]
  cases hs1 : okSz T.pages T.logical T.k with
  | false =>
    have HE : Hid (checkE T = 50) := checkE_no (by rw [HSH.out, hs1]; rfl)
    rw [hs1] at hsz
    unfold tabA at hb0 b0 ⊢
    clear hs1
    go_enter Try.func19, Try.ntmps19
    go_wp2_with (go_at_call 47; refine (hsz _).mono ?_; rintro e w' ⟨rfl, hw'⟩; have hw2 := hw'.symm; subst hw2; clear hw')
    go_ret
    rw [HE.out]
    exact ⟨rfl, hb0⟩
  | true =>
    obtain ⟨r1, r2, r3⟩ := okSz_iff.1 hs1
    obtain ⟨pr, hpr⟩ : ∃ pr, T.logical * T.pages = pr := ⟨_, rfl⟩
    have hprb : 0 ≤ pr ∧ pr ≤ 8192 := by rw [← hpr]; exact prod_bound r2 r1
    have hw1 : IntKind.i64.wrap (T.logical * T.pages) = pr := by rw [hpr, IntKind.wrap_i64]; omega
    have hw2 : wrap64 (T.logical * T.pages) = pr := (IntWalk.i64_left _).symm.trans hw1
    rw [hs1] at hsz HSH
    by_cases s2 : (V.nd : Int) = T.logical
    · have m2 : ((V.nd : Int) != T.logical) = false := by simpa using s2
      by_cases s3 : (V.nh : Int) = pr
      · have m3 : ((V.nh : Int) != pr) = false := by simpa using s3
        by_cases s4 : (V.nl : Int) ≤ T.k
        · have m4 : ¬ T.k < (V.nl : Int) := by omega
          have HOK : Hid (okShape T = true) := by show _ = _; rw [HSH.out, hpr]; simp [s2, s3, s4]
          obtain ⟨P, hP⟩ : ∃ P : Nat, T.pages = (P : Int) := ⟨T.pages.toNat, by omega⟩
          obtain ⟨L, hL⟩ : ∃ L : Nat, T.logical = (L : Int) := ⟨T.logical.toNat, by omega⟩
          have hnd : V.nd = L := by omega
          have hnh : V.nh = L * P := by rw [hP, hL] at hpr; have e : (V.nh : Int) = ((L * P : Nat) : Int) := (by rw [s3, ← hpr, Int.natCast_mul]); exact Int.ofNat_inj.1 e
          have hbl := fun w' hb => blocksMayBe_any V T w' (hT.below hb) (by omega) (by omega)
          have hhv := fun w' hb => haveMayBe_any V T P L w' (hT.below hb) hP (by omega) (by omega) hnd hnh
          have hsq := fun w' => seqMayBe_any V T w' (by omega)
          have hlg := fun w' hb => logsMayBe_any V T P w' (hT.below hb) hP (by omega) r2 (by omega)
          have HCE : Hid (checkE T = if (okBlocks T && okHv P T.data T.have' && okSeq T && okLogs T P) = true then 0 else 50) := by show _ = _; unfold checkE okT; rw [HOK.out, hP, Int.toNat_natCast]; rfl
          clear hs1 r1 r2 r3 s2 s3 s4 hP hL hnd hnh hprb hpr HSH HOK HLD HLH HLL h
          generalize okBlocks T = x1 at *
          generalize okHv P T.data T.have' = x2 at *
          generalize okSeq T = x3 at *
          generalize okLogs T P = x4 at *
          unfold tabA at hb0 b0 hT hbl hhv hsq hlg ⊢
          cases x1 with
          | false =>
            have HC : Hid (checkE T = 50) := by show _ = _; rw [HCE.out]; rfl
            go_enter Try.func19, Try.ntmps19
            go_upto_region 3 with (go_at_call 47; refine (hsz _).mono ?_; rintro e w' ⟨rfl, hw'⟩; have hw3 := hw'.symm; subst hw3; clear hw')
            clear hw1 hw2
            go_wp2_with (first | (go_at_call 48; refine (hbl _ (Below.refl _ _)).mono ?_; rintro e v1 ⟨rfl, k1⟩; have d1 := b0.kept k1; have y0 := d1.cell' (i := 0) rfl; have y1 := d1.cell' (i := 1) rfl; have y2 := d1.cell' (i := 2) rfl; have y3 := d1.cell' (i := 3) rfl; have y4 := d1.cell' (i := 4) rfl; have y5 := d1.cell' (i := 5) rfl; have y6 := d1.cell' (i := 6) rfl; have y7 := d1.cell' (i := 7) rfl; have y8 := d1.cell' (i := 8) rfl))
            go_ret
            rw [HC.out]
            exact ⟨rfl, bt hb0 k1⟩
          | true =>
            cases x2 with
            | false =>
              have HC : Hid (checkE T = 50) := by show _ = _; rw [HCE.out]; rfl
              go_enter Try.func19, Try.ntmps19
              go_upto_region 3 with (go_at_call 47; refine (hsz _).mono ?_; rintro e w' ⟨rfl, hw'⟩; have hw3 := hw'.symm; subst hw3; clear hw')
              clear hw1 hw2
              go_wp2_with (first | (go_at_call 48; refine (hbl _ (Below.refl _ _)).mono ?_; rintro e v1 ⟨rfl, k1⟩; have d1 := b0.kept k1; have y0 := d1.cell' (i := 0) rfl; have y1 := d1.cell' (i := 1) rfl; have y2 := d1.cell' (i := 2) rfl; have y3 := d1.cell' (i := 3) rfl; have y4 := d1.cell' (i := 4) rfl; have y5 := d1.cell' (i := 5) rfl; have y6 := d1.cell' (i := 6) rfl; have y7 := d1.cell' (i := 7) rfl; have y8 := d1.cell' (i := 8) rfl) | (go_at_call 49; refine (hhv _ k1).mono ?_; rintro e v2 ⟨rfl, k2⟩; have d2 := d1.kept k2; have x0 := d2.cell' (i := 0) rfl; have x1 := d2.cell' (i := 1) rfl; have x2 := d2.cell' (i := 2) rfl; have x3 := d2.cell' (i := 3) rfl; have x4 := d2.cell' (i := 4) rfl; have x5 := d2.cell' (i := 5) rfl; have x6 := d2.cell' (i := 6) rfl; have x7 := d2.cell' (i := 7) rfl; have x8 := d2.cell' (i := 8) rfl))
              go_ret
              rw [HC.out]
              exact ⟨rfl, bt (bt hb0 k1) k2⟩
            | true =>
              cases x3 with
              | false =>
                have HC : Hid (checkE T = 50) := by show _ = _; rw [HCE.out]; rfl
                go_enter Try.func19, Try.ntmps19
                go_upto_region 3 with (go_at_call 47; refine (hsz _).mono ?_; rintro e w' ⟨rfl, hw'⟩; have hw3 := hw'.symm; subst hw3; clear hw')
                clear hw1 hw2
                go_wp2_with (first | (go_at_call 48; refine (hbl _ (Below.refl _ _)).mono ?_; rintro e v1 ⟨rfl, k1⟩; have d1 := b0.kept k1; have y0 := d1.cell' (i := 0) rfl; have y1 := d1.cell' (i := 1) rfl; have y2 := d1.cell' (i := 2) rfl; have y3 := d1.cell' (i := 3) rfl; have y4 := d1.cell' (i := 4) rfl; have y5 := d1.cell' (i := 5) rfl; have y6 := d1.cell' (i := 6) rfl; have y7 := d1.cell' (i := 7) rfl; have y8 := d1.cell' (i := 8) rfl) | (go_at_call 49; refine (hhv _ k1).mono ?_; rintro e v2 ⟨rfl, k2⟩; have d2 := d1.kept k2; have x0 := d2.cell' (i := 0) rfl; have x1 := d2.cell' (i := 1) rfl; have x2 := d2.cell' (i := 2) rfl; have x3 := d2.cell' (i := 3) rfl; have x4 := d2.cell' (i := 4) rfl; have x5 := d2.cell' (i := 5) rfl; have x6 := d2.cell' (i := 6) rfl; have x7 := d2.cell' (i := 7) rfl; have x8 := d2.cell' (i := 8) rfl) | (go_at_call 50; refine (hsq _).mono ?_; rintro e v3 ⟨rfl, k3⟩; have d3 := d2.kept k3; have u0 := d3.cell' (i := 0) rfl; have u1 := d3.cell' (i := 1) rfl; have u2 := d3.cell' (i := 2) rfl; have u3 := d3.cell' (i := 3) rfl; have u4 := d3.cell' (i := 4) rfl; have u5 := d3.cell' (i := 5) rfl; have u6 := d3.cell' (i := 6) rfl; have u7 := d3.cell' (i := 7) rfl; have u8 := d3.cell' (i := 8) rfl))
                go_ret
                rw [HC.out]
                exact ⟨rfl, bt (bt (bt hb0 k1) k2) k3⟩
              | true =>
                cases x4 with
                | false =>
                  have HC : Hid (checkE T = 50) := by show _ = _; rw [HCE.out]; rfl
                  go_enter Try.func19, Try.ntmps19
                  go_upto_region 3 with (go_at_call 47; refine (hsz _).mono ?_; rintro e w' ⟨rfl, hw'⟩; have hw3 := hw'.symm; subst hw3; clear hw')
                  clear hw1 hw2
                  go_wp2_with (first | (go_at_call 48; refine (hbl _ (Below.refl _ _)).mono ?_; rintro e v1 ⟨rfl, k1⟩; have d1 := b0.kept k1; have y0 := d1.cell' (i := 0) rfl; have y1 := d1.cell' (i := 1) rfl; have y2 := d1.cell' (i := 2) rfl; have y3 := d1.cell' (i := 3) rfl; have y4 := d1.cell' (i := 4) rfl; have y5 := d1.cell' (i := 5) rfl; have y6 := d1.cell' (i := 6) rfl; have y7 := d1.cell' (i := 7) rfl; have y8 := d1.cell' (i := 8) rfl) | (go_at_call 49; refine (hhv _ k1).mono ?_; rintro e v2 ⟨rfl, k2⟩; have d2 := d1.kept k2; have x0 := d2.cell' (i := 0) rfl; have x1 := d2.cell' (i := 1) rfl; have x2 := d2.cell' (i := 2) rfl; have x3 := d2.cell' (i := 3) rfl; have x4 := d2.cell' (i := 4) rfl; have x5 := d2.cell' (i := 5) rfl; have x6 := d2.cell' (i := 6) rfl; have x7 := d2.cell' (i := 7) rfl; have x8 := d2.cell' (i := 8) rfl) | (go_at_call 50; refine (hsq _).mono ?_; rintro e v3 ⟨rfl, k3⟩; have d3 := d2.kept k3; have u0 := d3.cell' (i := 0) rfl; have u1 := d3.cell' (i := 1) rfl; have u2 := d3.cell' (i := 2) rfl; have u3 := d3.cell' (i := 3) rfl; have u4 := d3.cell' (i := 4) rfl; have u5 := d3.cell' (i := 5) rfl; have u6 := d3.cell' (i := 6) rfl; have u7 := d3.cell' (i := 7) rfl; have u8 := d3.cell' (i := 8) rfl) | (go_at_call 51; refine (hlg _ (bt (bt k1 k2) k3)).mono ?_; rintro e v4 ⟨rfl, k4⟩))
                  go_ret
                  rw [HC.out]
                  exact ⟨rfl, bt (bt (bt (bt hb0 k1) k2) k3) k4⟩
                | true =>
                  have HC : Hid (checkE T = 0) := by show _ = _; rw [HCE.out]; rfl
                  go_enter Try.func19, Try.ntmps19
                  go_upto_region 3 with (go_at_call 47; refine (hsz _).mono ?_; rintro e w' ⟨rfl, hw'⟩; have hw3 := hw'.symm; subst hw3; clear hw')
                  clear hw1 hw2
                  go_wp2_with (first | (go_at_call 48; refine (hbl _ (Below.refl _ _)).mono ?_; rintro e v1 ⟨rfl, k1⟩; have d1 := b0.kept k1; have y0 := d1.cell' (i := 0) rfl; have y1 := d1.cell' (i := 1) rfl; have y2 := d1.cell' (i := 2) rfl; have y3 := d1.cell' (i := 3) rfl; have y4 := d1.cell' (i := 4) rfl; have y5 := d1.cell' (i := 5) rfl; have y6 := d1.cell' (i := 6) rfl; have y7 := d1.cell' (i := 7) rfl; have y8 := d1.cell' (i := 8) rfl) | (go_at_call 49; refine (hhv _ k1).mono ?_; rintro e v2 ⟨rfl, k2⟩; have d2 := d1.kept k2; have x0 := d2.cell' (i := 0) rfl; have x1 := d2.cell' (i := 1) rfl; have x2 := d2.cell' (i := 2) rfl; have x3 := d2.cell' (i := 3) rfl; have x4 := d2.cell' (i := 4) rfl; have x5 := d2.cell' (i := 5) rfl; have x6 := d2.cell' (i := 6) rfl; have x7 := d2.cell' (i := 7) rfl; have x8 := d2.cell' (i := 8) rfl) | (go_at_call 50; refine (hsq _).mono ?_; rintro e v3 ⟨rfl, k3⟩; have d3 := d2.kept k3; have u0 := d3.cell' (i := 0) rfl; have u1 := d3.cell' (i := 1) rfl; have u2 := d3.cell' (i := 2) rfl; have u3 := d3.cell' (i := 3) rfl; have u4 := d3.cell' (i := 4) rfl; have u5 := d3.cell' (i := 5) rfl; have u6 := d3.cell' (i := 6) rfl; have u7 := d3.cell' (i := 7) rfl; have u8 := d3.cell' (i := 8) rfl) | (go_at_call 51; refine (hlg _ (bt (bt k1 k2) k3)).mono ?_; rintro e v4 ⟨rfl, k4⟩))
                  go_ret
                  rw [HC.out]
                  exact ⟨rfl, bt (bt (bt (bt hb0 k1) k2) k3) k4⟩
        · have m4 : T.k < (V.nl : Int) := by omega
          have HE : Hid (checkE T = 50) := checkE_no (by rw [HSH.out, hpr]; simp [s4])
          unfold tabA at hb0 b0 ⊢
          clear hs1 r1 r2 r3 s4
          go_enter Try.func19, Try.ntmps19
          go_wp2_with (go_at_call 47; refine (hsz _).mono ?_; rintro e w' ⟨rfl, hw'⟩; have hw3 := hw'.symm; subst hw3; clear hw')
          go_ret
          rw [HE.out]
          exact ⟨rfl, hb0⟩
      · have m3 : ((V.nh : Int) != pr) = true := by simpa using s3
        have HE : Hid (checkE T = 50) := checkE_no (by rw [HSH.out, hpr]; simp [s3])
        unfold tabA at hb0 b0 ⊢
        clear hs1 r1 r2 r3 s3
        go_enter Try.func19, Try.ntmps19
        go_wp2_with (go_at_call 47; refine (hsz _).mono ?_; rintro e w' ⟨rfl, hw'⟩; have hw3 := hw'.symm; subst hw3; clear hw')
        go_ret
        rw [HE.out]
        exact ⟨rfl, hb0⟩
    · have m2 : ((V.nd : Int) != T.logical) = true := by simpa using s2
      have HE : Hid (checkE T = 50) := checkE_no (by rw [HSH.out]; simp [s2])
      unfold tabA at hb0 b0 ⊢
      clear hs1 r1 r2 r3 s2
      go_enter Try.func19, Try.ntmps19
      go_wp2_with (go_at_call 47; refine (hsz _).mono ?_; rintro e w' ⟨rfl, hw'⟩; have hw3 := hw'.symm; subst hw3; clear hw')
      go_ret
      rw [HE.out]
      exact ⟨rfl, hb0⟩
end Go.Proofs.Ythibaefoioeghaa
