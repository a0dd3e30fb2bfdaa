/-
  Whether a step of a kind can be done.
-/
import Derived.Test.YthibaefoioeghaaPlOver
namespace Go.Proofs.Ythibaefoioeghaa
open Go.RowKit
def mayP (T : Tab) (P : Nat) (kind : Int) : Bool :=
  if kind = 5 then decide (¬ T.su < T.pages) && !over T P && (T.sp != -1)
  else if kind = 6 then !over T P && (T.sp != -1)
  else if kind = 7 then T.sp != -1
  else if kind = 3 then !(T.sp != -1)
  else if kind = 9 then victimP T == -1 && decide (0 < T.logs.length)
  else if kind = 8 then decide (0 < T.logs.length)
  else if kind = 4 then decide ((T.logs.length : Int) < T.k) && !room T
  else kind == 2 && room T
set_option linter.unusedSimpArgs false in
set_option maxRecDepth 100000 in
set_option maxHeartbeats 8000000 in
theorem may_any (V : TabV) (T : Tab) (P : Nat) (kind : Int) (w : World) (h : TabIn w V T) (hP : T.pages = P) (hP0 : 4 ≤ P ∧ P ≤ 32) (hpg : PgOk T) (hnl : V.nl ≤ 8) :
    Calls Try.prog 31 #[.agg (tabA V T), .int .i64 kind] w fun e w' => e = .returned (.bool (mayP T P kind)) ∧ Below w.heap.size w w' := by
  have hb0 := below_alloc w (.cells (tabA V T) 28)
  have b0 := Blk.new' w 28 (tabA V T)
  have hT := h.below hb0
  have ho := fun w' hb => isOvertaken_any V T P w' (hT.below hb) hP hP0 hpg
  have hs := fun w => hasSeq_any V T w
  have hv := fun w' hb => victim_any V T w' (hT.below hb)
  have hr := fun w' hb => hasRoom_any V T w' (hT.below hb) hnl
  have HL : Hid (T.logs.length = V.nl) := hT.logs.len
  have HM : Hid (mayP T P kind = if kind = 5 then decide (¬ T.su < T.pages) && !over T P && (T.sp != -1)
    else if kind = 6 then !over T P && (T.sp != -1)
    else if kind = 7 then T.sp != -1
    else if kind = 3 then !(T.sp != -1)
    else if kind = 9 then victimP T == -1 && decide (0 < V.nl)
    else if kind = 8 then decide (0 < V.nl)
    else if kind = 4 then decide ((V.nl : Int) < T.k) && !room T
    else kind == 2 && room T) := by show _ = _; unfold mayP; rw [HL.out]
  clear hT h hP hP0 hpg hnl HL
  generalize mayP T P kind = mm at *
  generalize over T P = ov at *
  generalize (T.sp != -1) = sq at *
  generalize victimP T = vi at *
  generalize room T = rm at *
  unfold tabA at hb0 b0 ho hs hv hr ⊢
  by_cases k5 : kind = 5
  · subst k5
    by_cases hu : T.su < T.pages
    · have HN : Hid (false = mm) := by show _ = _; rw [HM.out]; simp [hu]
      go_enter Try.func31, Try.ntmps31
      go_wp2_with fail
      go_ret
      exact ⟨ret_bool HN.out, hb0⟩
    · cases ov with
      | true =>
        have HN : Hid (false = mm) := by show _ = _; rw [HM.out]; simp [hu]
        go_enter Try.func31, Try.ntmps31
        go_wp2_with (go_at_call 58; refine (ho _ (Below.refl _ _)).mono ?_; rintro e w1 ⟨rfl, k1⟩; have b1 := b0.kept k1; have y0 := b1.cell' (i := 0) rfl; have y1 := b1.cell' (i := 1) rfl; have y2 := b1.cell' (i := 2) rfl; have y3 := b1.cell' (i := 3) rfl; have y4 := b1.cell' (i := 4) rfl; have y5 := b1.cell' (i := 5) rfl; have y6 := b1.cell' (i := 6) rfl; have y7 := b1.cell' (i := 7) rfl; have y8 := b1.cell' (i := 8) rfl)
        go_ret
        exact ⟨ret_bool HN.out, (bt hb0 k1)⟩
      | false =>
        have HN : Hid (sq = mm) := by show _ = _; rw [HM.out]; simp [Int.not_lt.1 hu]
        go_enter Try.func31, Try.ntmps31
        go_wp2_with (first | (go_at_call 58; refine (ho _ (Below.refl _ _)).mono ?_; rintro e w1 ⟨rfl, k1⟩; have b1 := b0.kept k1; have y0 := b1.cell' (i := 0) rfl; have y1 := b1.cell' (i := 1) rfl; have y2 := b1.cell' (i := 2) rfl; have y3 := b1.cell' (i := 3) rfl; have y4 := b1.cell' (i := 4) rfl; have y5 := b1.cell' (i := 5) rfl; have y6 := b1.cell' (i := 6) rfl; have y7 := b1.cell' (i := 7) rfl; have y8 := b1.cell' (i := 8) rfl) | (go_at_call 57; refine (hs _).mono ?_; rintro e w2 ⟨rfl, k2⟩; have b2 := b1.kept k2; have z0 := b2.cell' (i := 0) rfl; have z1 := b2.cell' (i := 1) rfl; have z2 := b2.cell' (i := 2) rfl; have z3 := b2.cell' (i := 3) rfl; have z4 := b2.cell' (i := 4) rfl; have z5 := b2.cell' (i := 5) rfl; have z6 := b2.cell' (i := 6) rfl; have z7 := b2.cell' (i := 7) rfl; have z8 := b2.cell' (i := 8) rfl))
        go_ret
        exact ⟨ret_bool HN.out, (bt (bt hb0 k1) k2)⟩
  have e5 : (kind == 5) = false := by simpa using k5
  by_cases k6 : kind = 6
  · subst k6
    cases ov with
    | true =>
      have HN : Hid (false = mm) := by show _ = _; rw [HM.out]; simp
      go_enter Try.func31, Try.ntmps31
      go_wp2_with (go_at_call 58; refine (ho _ (Below.refl _ _)).mono ?_; rintro e w1 ⟨rfl, k1⟩; have b1 := b0.kept k1; have y0 := b1.cell' (i := 0) rfl; have y1 := b1.cell' (i := 1) rfl; have y2 := b1.cell' (i := 2) rfl; have y3 := b1.cell' (i := 3) rfl; have y4 := b1.cell' (i := 4) rfl; have y5 := b1.cell' (i := 5) rfl; have y6 := b1.cell' (i := 6) rfl; have y7 := b1.cell' (i := 7) rfl; have y8 := b1.cell' (i := 8) rfl)
      go_ret
      exact ⟨ret_bool HN.out, (bt hb0 k1)⟩
    | false =>
      have HN : Hid (sq = mm) := by show _ = _; rw [HM.out]; simp
      go_enter Try.func31, Try.ntmps31
      go_wp2_with (first | (go_at_call 58; refine (ho _ (Below.refl _ _)).mono ?_; rintro e w1 ⟨rfl, k1⟩; have b1 := b0.kept k1; have y0 := b1.cell' (i := 0) rfl; have y1 := b1.cell' (i := 1) rfl; have y2 := b1.cell' (i := 2) rfl; have y3 := b1.cell' (i := 3) rfl; have y4 := b1.cell' (i := 4) rfl; have y5 := b1.cell' (i := 5) rfl; have y6 := b1.cell' (i := 6) rfl; have y7 := b1.cell' (i := 7) rfl; have y8 := b1.cell' (i := 8) rfl) | (go_at_call 57; refine (hs _).mono ?_; rintro e w2 ⟨rfl, k2⟩; have b2 := b1.kept k2; have z0 := b2.cell' (i := 0) rfl; have z1 := b2.cell' (i := 1) rfl; have z2 := b2.cell' (i := 2) rfl; have z3 := b2.cell' (i := 3) rfl; have z4 := b2.cell' (i := 4) rfl; have z5 := b2.cell' (i := 5) rfl; have z6 := b2.cell' (i := 6) rfl; have z7 := b2.cell' (i := 7) rfl; have z8 := b2.cell' (i := 8) rfl))
      go_ret
      exact ⟨ret_bool HN.out, (bt (bt hb0 k1) k2)⟩
  have e6 : (kind == 6) = false := by simpa using k6
  by_cases k7 : kind = 7
  · subst k7
    have HN : Hid (sq = mm) := by show _ = _; rw [HM.out]; simp
    go_enter Try.func31, Try.ntmps31
    go_wp2_with (go_at_call 57; refine (hs _).mono ?_; rintro e w1 ⟨rfl, k1⟩; have b1 := b0.kept k1; have y0 := b1.cell' (i := 0) rfl; have y1 := b1.cell' (i := 1) rfl; have y2 := b1.cell' (i := 2) rfl; have y3 := b1.cell' (i := 3) rfl; have y4 := b1.cell' (i := 4) rfl; have y5 := b1.cell' (i := 5) rfl; have y6 := b1.cell' (i := 6) rfl; have y7 := b1.cell' (i := 7) rfl; have y8 := b1.cell' (i := 8) rfl)
    go_ret
    exact ⟨ret_bool HN.out, (bt hb0 k1)⟩
  have e7 : (kind == 7) = false := by simpa using k7
  by_cases k3 : kind = 3
  · subst k3
    have HN : Hid ((!sq) = mm) := by show _ = _; rw [HM.out]; simp
    go_enter Try.func31, Try.ntmps31
    go_wp2_with (go_at_call 57; refine (hs _).mono ?_; rintro e w1 ⟨rfl, k1⟩; have b1 := b0.kept k1; have y0 := b1.cell' (i := 0) rfl; have y1 := b1.cell' (i := 1) rfl; have y2 := b1.cell' (i := 2) rfl; have y3 := b1.cell' (i := 3) rfl; have y4 := b1.cell' (i := 4) rfl; have y5 := b1.cell' (i := 5) rfl; have y6 := b1.cell' (i := 6) rfl; have y7 := b1.cell' (i := 7) rfl; have y8 := b1.cell' (i := 8) rfl)
    go_ret
    exact ⟨ret_bool HN.out, (bt hb0 k1)⟩
  have e3 : (kind == 3) = false := by simpa using k3
  by_cases k9 : kind = 9
  · subst k9
    by_cases hvi : vi = -1
    · have HN : Hid (decide (0 < V.nl) = mm) := by show _ = _; rw [HM.out]; simp [hvi]
      subst hvi
      go_enter Try.func31, Try.ntmps31
      go_wp2_with (go_at_call 59; refine (hv _ (Below.refl _ _)).mono ?_; rintro e w1 ⟨rfl, k1⟩; have b1 := b0.kept k1; have y0 := b1.cell' (i := 0) rfl; have y1 := b1.cell' (i := 1) rfl; have y2 := b1.cell' (i := 2) rfl; have y3 := b1.cell' (i := 3) rfl; have y4 := b1.cell' (i := 4) rfl; have y5 := b1.cell' (i := 5) rfl; have y6 := b1.cell' (i := 6) rfl; have y7 := b1.cell' (i := 7) rfl; have y8 := b1.cell' (i := 8) rfl)
      go_ret
      exact ⟨ret_bool HN.out, (bt hb0 k1)⟩
    · have HN : Hid (false = mm) := by show _ = _; rw [HM.out]; simp [hvi]
      have hvi' : (vi == -1) = false := by simpa using hvi
      clear hvi
      go_enter Try.func31, Try.ntmps31
      go_wp2_with (go_at_call 59; refine (hv _ (Below.refl _ _)).mono ?_; rintro e w1 ⟨rfl, k1⟩; have b1 := b0.kept k1; have y0 := b1.cell' (i := 0) rfl; have y1 := b1.cell' (i := 1) rfl; have y2 := b1.cell' (i := 2) rfl; have y3 := b1.cell' (i := 3) rfl; have y4 := b1.cell' (i := 4) rfl; have y5 := b1.cell' (i := 5) rfl; have y6 := b1.cell' (i := 6) rfl; have y7 := b1.cell' (i := 7) rfl; have y8 := b1.cell' (i := 8) rfl)
      go_ret
      exact ⟨ret_bool HN.out, (bt hb0 k1)⟩
  have e9 : (kind == 9) = false := by simpa using k9
  by_cases k8 : kind = 8
  · subst k8
    have HN : Hid (decide (0 < V.nl) = mm) := by show _ = _; rw [HM.out]; simp
    go_enter Try.func31, Try.ntmps31
    go_wp2_with fail
    go_ret
    exact ⟨ret_bool HN.out, hb0⟩
  have e8 : (kind == 8) = false := by simpa using k8
  by_cases k4 : kind = 4
  · subst k4
    by_cases hk : (V.nl : Int) < T.k
    · have HN : Hid ((!rm) = mm) := by show _ = _; rw [HM.out]; simp [hk]
      go_enter Try.func31, Try.ntmps31
      go_wp2_with (go_at_call 60; refine (hr _ (Below.refl _ _)).mono ?_; rintro e w1 ⟨rfl, k1⟩; have b1 := b0.kept k1; have y0 := b1.cell' (i := 0) rfl; have y1 := b1.cell' (i := 1) rfl; have y2 := b1.cell' (i := 2) rfl; have y3 := b1.cell' (i := 3) rfl; have y4 := b1.cell' (i := 4) rfl; have y5 := b1.cell' (i := 5) rfl; have y6 := b1.cell' (i := 6) rfl; have y7 := b1.cell' (i := 7) rfl; have y8 := b1.cell' (i := 8) rfl)
      go_ret
      exact ⟨ret_bool HN.out, (bt hb0 k1)⟩
    · have HN : Hid (false = mm) := by show _ = _; rw [HM.out]; simp [hk]
      have hk' : decide ((V.nl : Int) < T.k) = false := by simpa using hk
      go_enter Try.func31, Try.ntmps31
      go_wp2_with fail
      go_ret
      exact ⟨ret_bool HN.out, hb0⟩
  have e4 : (kind == 4) = false := by simpa using k4
  by_cases k2 : kind = 2
  · have HN : Hid (rm = mm) := by show _ = _; rw [HM.out, if_neg k5, if_neg k6, if_neg k7, if_neg k3, if_neg k9, if_neg k8, if_neg k4]; simp [k2]
    subst k2
    clear k5 k6 k7 k3 k9 k8 k4
    go_enter Try.func31, Try.ntmps31
    go_wp2_with (go_at_call 60; refine (hr _ (Below.refl _ _)).mono ?_; rintro e w1 ⟨rfl, k1⟩; have b1 := b0.kept k1; have y0 := b1.cell' (i := 0) rfl; have y1 := b1.cell' (i := 1) rfl; have y2 := b1.cell' (i := 2) rfl; have y3 := b1.cell' (i := 3) rfl; have y4 := b1.cell' (i := 4) rfl; have y5 := b1.cell' (i := 5) rfl; have y6 := b1.cell' (i := 6) rfl; have y7 := b1.cell' (i := 7) rfl; have y8 := b1.cell' (i := 8) rfl)
    go_ret
    exact ⟨ret_bool HN.out, (bt hb0 k1)⟩
  have e2 : (kind == 2) = false := by simpa using k2
  have HN : Hid (false = mm) := by show _ = _; rw [HM.out, if_neg k5, if_neg k6, if_neg k7, if_neg k3, if_neg k9, if_neg k8, if_neg k4, e2]; rfl
  go_enter Try.func31, Try.ntmps31
  go_wp2_with fail
  go_ret
  exact ⟨ret_bool HN.out, hb0⟩
end Go.Proofs.Ythibaefoioeghaa
