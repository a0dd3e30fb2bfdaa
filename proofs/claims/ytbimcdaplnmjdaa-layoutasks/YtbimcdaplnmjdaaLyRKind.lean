/-
  What the reference's Kind and InodeAt answer.
-/
import Derived.Test.YtbimcdaplnmjdaaLyKind
import Derived.Test.YtbimcdaplnmjdaaLyRef3
namespace Go.Proofs.Ytbimcdaplnmjdaa
open Go.RowKit
/-- The reference's way to tell what a block is. -/
def rknd (m dd x : Int) : Int := if x = 0 then 1 else if x < m then 2 else if x = m then 3 else if x = m + 1 then 4 else if x < m + 2 + 4 then 5 else if x < dd then 6 else 7
theorem rknd_knd {b j x : Int} (hx : 0 ≤ x) (hd : 1 ≤ dN b) : rknd (gMap b (x / 128)) (gData b j (x / 128)) x = knd b j x := by
  rw [← kin_knd b j x hx]
  unfold rknd kin gMap gData
  generalize dN b = d at *
  simp only [decide_eq_true_eq]
  by_cases h : x / 128 = 0
  · rw [if_pos h, if_pos h]
    repeat' split
    all_goals omega
  · rw [if_neg h, if_neg h]
    repeat' split
    all_goals omega
set_option linter.unusedSimpArgs false in
set_option maxHeartbeats 4000000 in
set_option maxRecDepth 100000 in
theorem rkind_any (b j x : Int) (w : World) : Calls Try.prog 29 #[.agg #[.int .i64 b, .int .i64 j], .int .i64 x] w fun e w' => e = .returned (.int .i64 (kindN b j x)) ∧ Below w.heap.size w w' := by
  have hb0 := below_alloc w (.cells #[.int .i64 b, .int .i64 j] 24)
  have b0 := Blk.new' w 24 #[.int .i64 b, .int .i64 j]
  have hck := fun w => rchk_any b j w
  have hgo := fun w => rgroupOf_any b j x w
  cases hok : okS b j with
  | false =>
    rw [chk_no hok] at hck
    rw [show kindN b j x = 0 from by unfold kindN; rw [hok]; rfl]
    clear hok hgo
    go_enter Try.func29, Try.ntmps29
    go_wp2_with (go_at_call 15; refine (hck _).mono ?_; rintro e w1 ⟨rfl, hb1⟩; have k1 := b0.kept hb1; have c0 := k1.cell' (i := 0) rfl; have c1 := k1.cell' (i := 1) rfl)
    go_ret
    exact ⟨rfl, bt hb0 hb1⟩
  | true =>
    rw [chk_ok hok] at hck
    obtain ⟨h1, h2, h3, h4, -⟩ := okS_iff.1 hok
    by_cases hx : 0 ≤ x ∧ x < b
    · rw [(gof_yes hok hx.1 hx.2).1, (gof_yes hok hx.1 hx.2).2] at hgo
      have hd := dN_rng h1 h2
      have HK : Hid (kindN b j x = rknd (gMap b (x / 128)) (gData b j (x / 128)) x) := by
        show _ = _
        rw [rknd_knd hx.1 hd.1]
        unfold kindN
        rw [if_pos hok, if_pos hx]
      rw [HK.out]
      have hgr : 0 ≤ x / 128 ∧ x / 128 < gN b := by unfold gN; omega
      have hgg := gN_rng h1 h2
      have hm := gMap_rng h1 h2 hgr.1 (by omega)
      have hpl := fun w => rgroup_any b j (x / 128) w
      rw [(grp_ok hok hgr).1, (grp_ok hok hgr).2] at hpl
      unfold grpA at hpl
      generalize x / 128 = g at *
      generalize gMap b g = m at *
      generalize gData b j g = dd at *
      generalize gLen b g = ll at *
      have hm1 := hm.1
      have hm2 := hm.2
      unfold rknd
      clear hok hx hgr HK hd hgg hm
      by_cases a0 : x = 0
      · have z0 : (x == 0) = true := by rw [a0]; rfl
        rw [if_pos a0]
        clear a0
        go_enter Try.func29, Try.ntmps29
        go_wp2_with (first
            | (go_at_call 15; refine (hck _).mono ?_; rintro e w1 ⟨rfl, hb1⟩; have k1 := b0.kept hb1; have c0 := k1.cell' (i := 0) rfl; have c1 := k1.cell' (i := 1) rfl)
            | (go_at_call 25; refine (hgo _).mono ?_; rintro e w2 ⟨rfl, hb2⟩; have k2 := k1.kept hb2; have d0 := k2.cell' (i := 0) rfl; have d1 := k2.cell' (i := 1) rfl)
            | (go_at_call 13; refine (hpl _).mono ?_; rintro e w3 ⟨rfl, hb3⟩))
        go_ret
        exact ⟨rfl, bt (bt (bt (bt hb0 hb1) hb2) hb3) (below_alloc _ _)⟩
      have z0 : (x == 0) = false := by rw [beq_eq_false_iff_ne]; exact a0
      rw [if_neg a0]
      clear a0
      by_cases a1 : x < m
      · rw [if_pos a1]
        go_enter Try.func29, Try.ntmps29
        go_wp2_with (first
            | (go_at_call 15; refine (hck _).mono ?_; rintro e w1 ⟨rfl, hb1⟩; have k1 := b0.kept hb1; have c0 := k1.cell' (i := 0) rfl; have c1 := k1.cell' (i := 1) rfl)
            | (go_at_call 25; refine (hgo _).mono ?_; rintro e w2 ⟨rfl, hb2⟩; have k2 := k1.kept hb2; have d0 := k2.cell' (i := 0) rfl; have d1 := k2.cell' (i := 1) rfl)
            | (go_at_call 13; refine (hpl _).mono ?_; rintro e w3 ⟨rfl, hb3⟩))
        go_ret
        exact ⟨rfl, bt (bt (bt (bt hb0 hb1) hb2) hb3) (below_alloc _ _)⟩
      rw [if_neg a1]
      by_cases a2 : x = m
      · have z2 : (x == m) = true := by rw [a2]; simp
        rw [if_pos a2]
        clear a2
        go_enter Try.func29, Try.ntmps29
        go_wp2_with (first
            | (go_at_call 15; refine (hck _).mono ?_; rintro e w1 ⟨rfl, hb1⟩; have k1 := b0.kept hb1; have c0 := k1.cell' (i := 0) rfl; have c1 := k1.cell' (i := 1) rfl)
            | (go_at_call 25; refine (hgo _).mono ?_; rintro e w2 ⟨rfl, hb2⟩; have k2 := k1.kept hb2; have d0 := k2.cell' (i := 0) rfl; have d1 := k2.cell' (i := 1) rfl)
            | (go_at_call 13; refine (hpl _).mono ?_; rintro e w3 ⟨rfl, hb3⟩))
        go_ret
        exact ⟨rfl, bt (bt (bt (bt hb0 hb1) hb2) hb3) (below_alloc _ _)⟩
      have z2 : (x == m) = false := by rw [beq_eq_false_iff_ne]; exact a2
      rw [if_neg a2]
      clear a2
      by_cases a3 : x = m + 1
      · have z3 : (x == m + 1) = true := by rw [a3]; simp
        rw [if_pos a3]
        clear a3
        go_enter Try.func29, Try.ntmps29
        go_wp2_with (first
            | (go_at_call 15; refine (hck _).mono ?_; rintro e w1 ⟨rfl, hb1⟩; have k1 := b0.kept hb1; have c0 := k1.cell' (i := 0) rfl; have c1 := k1.cell' (i := 1) rfl)
            | (go_at_call 25; refine (hgo _).mono ?_; rintro e w2 ⟨rfl, hb2⟩; have k2 := k1.kept hb2; have d0 := k2.cell' (i := 0) rfl; have d1 := k2.cell' (i := 1) rfl)
            | (go_at_call 13; refine (hpl _).mono ?_; rintro e w3 ⟨rfl, hb3⟩))
        go_ret
        exact ⟨rfl, bt (bt (bt (bt hb0 hb1) hb2) hb3) (below_alloc _ _)⟩
      have z3 : (x == m + 1) = false := by rw [beq_eq_false_iff_ne]; exact a3
      rw [if_neg a3]
      clear a3
      by_cases a4 : x < m + 2 + 4
      · rw [if_pos a4]
        go_enter Try.func29, Try.ntmps29
        go_wp2_with (first
            | (go_at_call 15; refine (hck _).mono ?_; rintro e w1 ⟨rfl, hb1⟩; have k1 := b0.kept hb1; have c0 := k1.cell' (i := 0) rfl; have c1 := k1.cell' (i := 1) rfl)
            | (go_at_call 25; refine (hgo _).mono ?_; rintro e w2 ⟨rfl, hb2⟩; have k2 := k1.kept hb2; have d0 := k2.cell' (i := 0) rfl; have d1 := k2.cell' (i := 1) rfl)
            | (go_at_call 13; refine (hpl _).mono ?_; rintro e w3 ⟨rfl, hb3⟩))
        go_ret
        exact ⟨rfl, bt (bt (bt (bt hb0 hb1) hb2) hb3) (below_alloc _ _)⟩
      rw [if_neg a4]
      by_cases a5 : x < dd
      · rw [if_pos a5]
        go_enter Try.func29, Try.ntmps29
        go_wp2_with (first
            | (go_at_call 15; refine (hck _).mono ?_; rintro e w1 ⟨rfl, hb1⟩; have k1 := b0.kept hb1; have c0 := k1.cell' (i := 0) rfl; have c1 := k1.cell' (i := 1) rfl)
            | (go_at_call 25; refine (hgo _).mono ?_; rintro e w2 ⟨rfl, hb2⟩; have k2 := k1.kept hb2; have d0 := k2.cell' (i := 0) rfl; have d1 := k2.cell' (i := 1) rfl)
            | (go_at_call 13; refine (hpl _).mono ?_; rintro e w3 ⟨rfl, hb3⟩))
        go_ret
        exact ⟨rfl, bt (bt (bt (bt hb0 hb1) hb2) hb3) (below_alloc _ _)⟩
      rw [if_neg a5]
      go_enter Try.func29, Try.ntmps29
      go_wp2_with (first
          | (go_at_call 15; refine (hck _).mono ?_; rintro e w1 ⟨rfl, hb1⟩; have k1 := b0.kept hb1; have c0 := k1.cell' (i := 0) rfl; have c1 := k1.cell' (i := 1) rfl)
          | (go_at_call 25; refine (hgo _).mono ?_; rintro e w2 ⟨rfl, hb2⟩; have k2 := k1.kept hb2; have d0 := k2.cell' (i := 0) rfl; have d1 := k2.cell' (i := 1) rfl)
          | (go_at_call 13; refine (hpl _).mono ?_; rintro e w3 ⟨rfl, hb3⟩))
      go_ret
      exact ⟨rfl, bt (bt (bt (bt hb0 hb1) hb2) hb3) (below_alloc _ _)⟩
    · rw [(gof_no (b := b) (j := j) (x := x) (by omega)).1, (gof_no (b := b) (j := j) (x := x) (by omega)).2] at hgo
      rw [show kindN b j x = 8 from by unfold kindN; rw [if_pos hok, if_neg hx]]
      clear hok
      go_enter Try.func29, Try.ntmps29
      go_wp2_with (first
          | (go_at_call 15; refine (hck _).mono ?_; rintro e w1 ⟨rfl, hb1⟩; have k1 := b0.kept hb1; have c0 := k1.cell' (i := 0) rfl; have c1 := k1.cell' (i := 1) rfl)
          | (go_at_call 25; refine (hgo _).mono ?_; rintro e w2 ⟨rfl, hb2⟩; have k2 := k1.kept hb2; have d0 := k2.cell' (i := 0) rfl; have d1 := k2.cell' (i := 1) rfl))
      go_ret
      exact ⟨rfl, bt (bt hb0 hb1) hb2⟩
set_option linter.unusedSimpArgs false in
set_option maxHeartbeats 4000000 in
set_option maxRecDepth 100000 in
theorem rinodeAt_any (b j i : Int) (w : World) : Calls Try.prog 27 #[.agg #[.int .i64 b, .int .i64 j], .int .i64 i] w fun e w' => e = .returned (.tuple #[.int .i64 (inoB b j i), .int .i64 (inoO b j i), .int .i64 (inoE b j i)]) ∧ Below w.heap.size w w' := by
  have hb0 := below_alloc w (.cells #[.int .i64 b, .int .i64 j] 24)
  have b0 := Blk.new' w 24 #[.int .i64 b, .int .i64 j]
  have hck := fun w => rchk_any b j w
  cases hok : okS b j with
  | false =>
    rw [chk_no hok] at hck
    rw [(ino_no hok).1, (ino_no hok).2.1, (ino_no hok).2.2]
    clear hok
    go_enter Try.func27, Try.ntmps27
    go_wp2_with (go_at_call 15; refine (hck _).mono ?_; rintro e w1 ⟨rfl, hb1⟩; have k1 := b0.kept hb1; have c0 := k1.cell' (i := 0) rfl; have c1 := k1.cell' (i := 1) rfl)
    go_ret3
    exact ⟨rfl, bt hb0 hb1⟩
  | true =>
    rw [chk_ok hok] at hck
    obtain ⟨h1, h2, h3, h4, -⟩ := okS_iff.1 hok
    have hin := fun w => rinodes_any b j w
    rw [show grpsN b j = gN b from by unfold grpsN; rw [hok]; rfl] at hin
    have hgr := gN_rng h1 h2
    by_cases hi1 : i < 1
    · rw [(ino_far hok (by omega)).1, (ino_far (i := i) hok (by omega)).2.1, (ino_far (i := i) hok (by omega)).2.2]
      clear hok hgr
      go_enter Try.func27, Try.ntmps27
      go_wp2_with (go_at_call 15; refine (hck _).mono ?_; rintro e w1 ⟨rfl, hb1⟩; have k1 := b0.kept hb1; have c0 := k1.cell' (i := 0) rfl; have c1 := k1.cell' (i := 1) rfl)
      go_ret3
      exact ⟨rfl, bt hb0 hb1⟩
    by_cases hi2 : 16 * gN b < i
    · rw [(ino_far hok (by omega)).1, (ino_far (i := i) hok (by omega)).2.1, (ino_far (i := i) hok (by omega)).2.2]
      generalize gN b = n at *
      clear hok hgr
      go_enter Try.func27, Try.ntmps27
      go_wp2_with (first
          | (go_at_call 15; refine (hck _).mono ?_; rintro e w1 ⟨rfl, hb1⟩; have k1 := b0.kept hb1; have c0 := k1.cell' (i := 0) rfl; have c1 := k1.cell' (i := 1) rfl)
          | (go_at_call 23; refine (hin _).mono ?_; rintro e w2 ⟨rfl, hb2⟩))
      go_ret3
      exact ⟨rfl, bt (bt hb0 hb1) hb2⟩
    rw [(ino_ok (i := i) hok (by omega)).1, (ino_ok (i := i) hok (by omega)).2.1, (ino_ok (i := i) hok (by omega)).2.2]
    have hq1 : 0 ≤ (i - 1) / 16 := by omega
    have hq2 : (i - 1) / 16 ≤ 64 := by omega
    have hm := gMap_rng h1 h2 hq1 hq2
    have hpl := fun w => rgroup_any b j ((i - 1) / 16) w
    rw [(grp_ok (g := (i - 1) / 16) hok (by omega)).1, (grp_ok (g := (i - 1) / 16) hok (by omega)).2] at hpl
    unfold grpA at hpl
    generalize gMap b ((i - 1) / 16) = m at *
    generalize gData b j ((i - 1) / 16) = dd at *
    generalize gLen b ((i - 1) / 16) = ll at *
    generalize gN b = n at *
    have hn2 := hgr.2
    have hm1 := hm.1
    have hm2 := hm.2
    clear hok hgr hm
    go_enter Try.func27, Try.ntmps27
    go_wp2_with (first
        | (go_at_call 15; refine (hck _).mono ?_; rintro e w1 ⟨rfl, hb1⟩; have k1 := b0.kept hb1; have c0 := k1.cell' (i := 0) rfl; have c1 := k1.cell' (i := 1) rfl)
        | (go_at_call 23; refine (hin _).mono ?_; rintro e w2 ⟨rfl, hb2⟩; have k2 := k1.kept hb2; have d0 := k2.cell' (i := 0) rfl; have d1 := k2.cell' (i := 1) rfl)
        | (go_at_call 13; refine (hpl _).mono ?_; rintro e w3 ⟨rfl, hb3⟩))
    go_ret3
    exact ⟨rfl, bt (bt (bt (bt hb0 hb1) hb2) hb3) (below_alloc _ _)⟩
end Go.Proofs.Ytbimcdaplnmjdaa
