/-
  What layout.kindIn, Kind and InodeAt answer.
-/
import Derived.Test.YtbimcdaplnmjdaaLyPlan
namespace Go.Proofs.Ytbimcdaplnmjdaa
open Go.RowKit
/-- What a block of a group is. -/
def kin (f : Bool) (x2 x3 x4 x5 x : Int) : Int :=
  if f = true ∧ x < 1 then 1 else if f = true ∧ x < x2 then 2 else if x < x3 then 3 else if x < x4 then 4 else if x < x4 + 4 then 5 else if x < x5 then 6 else 7
set_option linter.unusedSimpArgs false in
set_option maxHeartbeats 4000000 in
set_option maxRecDepth 100000 in
theorem kindIn_any (f : Bool) (x0 x1 x2 x3 x4 x5 x : Int) (w : World) (h1 : -10000 ≤ x4) (h2 : x4 ≤ 100000) :
    Calls Try.prog 52 #[.agg #[.int .i64 x0, .int .i64 x1, .int .i64 x2, .int .i64 x3, .int .i64 x4, .int .i64 x5], .int .i64 (if f then 1 else 3), .int .i64 x] w fun e w' => e = .returned (.int .i64 (kin f x2 x3 x4 x5 x)) ∧ Below w.heap.size w w' := by
  have hb0 := below_alloc w (.cells #[.int .i64 x0, .int .i64 x1, .int .i64 x2, .int .i64 x3, .int .i64 x4, .int .i64 x5] 30)
  have b0 := Blk.new' w 30 #[.int .i64 x0, .int .i64 x1, .int .i64 x2, .int .i64 x3, .int .i64 x4, .int .i64 x5]
  cases f with
  | true =>
    rw [if_pos rfl]
    by_cases q1 : x < 1
    · rw [show kin true x2 x3 x4 x5 x = 1 from by unfold kin; simp; omega]
      go_enter Try.func52, Try.ntmps52
      go_wp2_with fail
      go_ret
      exact ⟨rfl, hb0⟩
    by_cases q2 : x < x2
    · rw [show kin true x2 x3 x4 x5 x = 2 from by unfold kin; simp; omega]
      go_enter Try.func52, Try.ntmps52
      go_wp2_with fail
      go_ret
      exact ⟨rfl, hb0⟩
    by_cases q3 : x < x3
    · rw [show kin true x2 x3 x4 x5 x = 3 from by unfold kin; simp; omega]
      go_enter Try.func52, Try.ntmps52
      go_wp2_with fail
      go_ret
      exact ⟨rfl, hb0⟩
    by_cases q4 : x < x4
    · rw [show kin true x2 x3 x4 x5 x = 4 from by unfold kin; simp; omega]
      go_enter Try.func52, Try.ntmps52
      go_wp2_with fail
      go_ret
      exact ⟨rfl, hb0⟩
    by_cases q5 : x < x4 + 4
    · rw [show kin true x2 x3 x4 x5 x = 5 from by unfold kin; simp; omega]
      go_enter Try.func52, Try.ntmps52
      go_wp2_with (go_at_call 51; refine (tableEnd_any x0 x1 x2 x3 x4 x5 _ h1 h2).mono ?_; rintro e w3 ⟨rfl, hb3⟩; have b1 := b0.kept hb3; have c5 := b1.cell' (i := 5) rfl)
      go_ret
      exact ⟨rfl, bt hb0 hb3⟩
    by_cases q6 : x < x5
    · rw [show kin true x2 x3 x4 x5 x = 6 from by unfold kin; simp; omega]
      go_enter Try.func52, Try.ntmps52
      go_wp2_with (go_at_call 51; refine (tableEnd_any x0 x1 x2 x3 x4 x5 _ h1 h2).mono ?_; rintro e w3 ⟨rfl, hb3⟩; have b1 := b0.kept hb3; have c5 := b1.cell' (i := 5) rfl)
      go_ret
      exact ⟨rfl, bt hb0 hb3⟩
    rw [show kin true x2 x3 x4 x5 x = 7 from by unfold kin; simp; omega]
    go_enter Try.func52, Try.ntmps52
    go_wp2_with (go_at_call 51; refine (tableEnd_any x0 x1 x2 x3 x4 x5 _ h1 h2).mono ?_; rintro e w3 ⟨rfl, hb3⟩; have b1 := b0.kept hb3; have c5 := b1.cell' (i := 5) rfl)
    go_ret
    exact ⟨rfl, bt hb0 hb3⟩
  | false =>
    rw [if_neg (by decide)]
    by_cases q3 : x < x3
    · rw [show kin false x2 x3 x4 x5 x = 3 from by unfold kin; simp; omega]
      go_enter Try.func52, Try.ntmps52
      go_wp2_with fail
      go_ret
      exact ⟨rfl, hb0⟩
    by_cases q4 : x < x4
    · rw [show kin false x2 x3 x4 x5 x = 4 from by unfold kin; simp; omega]
      go_enter Try.func52, Try.ntmps52
      go_wp2_with fail
      go_ret
      exact ⟨rfl, hb0⟩
    by_cases q5 : x < x4 + 4
    · rw [show kin false x2 x3 x4 x5 x = 5 from by unfold kin; simp; omega]
      go_enter Try.func52, Try.ntmps52
      go_wp2_with (go_at_call 51; refine (tableEnd_any x0 x1 x2 x3 x4 x5 _ h1 h2).mono ?_; rintro e w3 ⟨rfl, hb3⟩; have b1 := b0.kept hb3; have c5 := b1.cell' (i := 5) rfl)
      go_ret
      exact ⟨rfl, bt hb0 hb3⟩
    by_cases q6 : x < x5
    · rw [show kin false x2 x3 x4 x5 x = 6 from by unfold kin; simp; omega]
      go_enter Try.func52, Try.ntmps52
      go_wp2_with (go_at_call 51; refine (tableEnd_any x0 x1 x2 x3 x4 x5 _ h1 h2).mono ?_; rintro e w3 ⟨rfl, hb3⟩; have b1 := b0.kept hb3; have c5 := b1.cell' (i := 5) rfl)
      go_ret
      exact ⟨rfl, bt hb0 hb3⟩
    rw [show kin false x2 x3 x4 x5 x = 7 from by unfold kin; simp; omega]
    go_enter Try.func52, Try.ntmps52
    go_wp2_with (go_at_call 51; refine (tableEnd_any x0 x1 x2 x3 x4 x5 _ h1 h2).mono ?_; rintro e w3 ⟨rfl, hb3⟩; have b1 := b0.kept hb3; have c5 := b1.cell' (i := 5) rfl)
    go_ret
    exact ⟨rfl, bt hb0 hb3⟩
/-- What a block of the file system is. -/
def knd (b j x : Int) : Int :=
  if x < 128 then (if x < 1 then 1 else if x < 1 + dN b then 2 else if x < 2 + dN b then 3 else if x < 3 + dN b then 4 else if x < 7 + dN b then 5 else if x < 7 + dN b + j then 6 else 7)
  else (if x % 128 < 1 then 3 else if x % 128 < 2 then 4 else if x % 128 < 6 then 5 else 7)
/-- What any block is. -/
def kindN (b j x : Int) : Int := if okS b j then (if 0 ≤ x ∧ x < b then knd b j x else 8) else 0
theorem kin_knd (b j x : Int) (hx : 0 ≤ x) : kin (decide (x / 128 = 0)) (gMap b (x / 128)) (gMap b (x / 128) + 1) (gMap b (x / 128) + 2) (gData b j (x / 128)) x = knd b j x := by
  unfold kin knd gMap gData
  by_cases h : x < 128
  · have e : x / 128 = 0 := by omega
    rw [e, if_pos h]
    simp only [decide_true, if_pos, true_and]
    rw [show 1 + dN b + 1 = 2 + dN b from by omega, show 1 + dN b + 2 = 3 + dN b from by omega, show 3 + dN b + 4 = 7 + dN b from by omega]
  · have e : ¬ x / 128 = 0 := by omega
    rw [if_neg h, if_neg e, if_neg e]
    simp only [e, decide_false, Bool.false_eq_true, false_and, if_false]
    by_cases a1 : x % 128 < 1
    · rw [if_pos a1, if_pos (by omega)]
    · rw [if_neg a1, if_neg (by omega)]
      by_cases a2 : x % 128 < 2
      · rw [if_pos a2, if_pos (by omega)]
      · rw [if_neg a2, if_neg (by omega)]
        by_cases a3 : x % 128 < 6
        · rw [if_pos a3, if_pos (by omega)]
        · rw [if_neg a3, if_neg (by omega), if_neg (by omega)]
set_option linter.unusedSimpArgs false in
set_option maxHeartbeats 4000000 in
set_option maxRecDepth 100000 in
theorem kind_any (b j x : Int) (w : World) : Calls Try.prog 28 #[.agg #[.int .i64 b, .int .i64 j], .int .i64 x] w fun e w' => e = .returned (.int .i64 (kindN b j x)) ∧ Below w.heap.size w w' := by
  have hb0 := below_alloc w (.cells #[.int .i64 b, .int .i64 j] 24)
  have b0 := Blk.new' w 24 #[.int .i64 b, .int .i64 j]
  have hck := fun w => check_any b j w
  have hgo := fun w => groupOf_any b j x w
  cases hok : okS b j with
  | false =>
    rw [chk_no hok] at hck
    rw [show kindN b j x = 0 from by unfold kindN; rw [hok]; rfl]
    clear hok hgo
    go_enter Try.func28, Try.ntmps28
    go_wp2_with (go_at_call 14; refine (hck _).mono ?_; rintro e w1 ⟨rfl, hb1⟩; have k1 := b0.kept hb1; have c0 := k1.cell' (i := 0) rfl; have c1 := k1.cell' (i := 1) rfl)
    go_ret
    exact ⟨rfl, bt hb0 hb1⟩
  | true =>
    rw [chk_ok hok] at hck
    obtain ⟨h1, h2, h3, h4, -⟩ := okS_iff.1 hok
    by_cases hx : 0 ≤ x ∧ x < b
    · rw [(gof_yes hok hx.1 hx.2).1, (gof_yes hok hx.1 hx.2).2] at hgo
      have HK : Hid (kindN b j x = kin (decide (x / 128 = 0)) (gMap b (x / 128)) (gMap b (x / 128) + 1) (gMap b (x / 128) + 2) (gData b j (x / 128)) x) := by
        show _ = _
        rw [kin_knd b j x hx.1]
        unfold kindN
        rw [if_pos hok, if_pos hx]
      rw [HK.out]
      have hgr : 0 ≤ x / 128 ∧ x / 128 ≤ 64 := by omega
      have hmr : -10000 ≤ gMap b (x / 128) + 2 ∧ gMap b (x / 128) + 2 ≤ 100000 := by
        have hd := dN_rng h1 h2
        unfold gMap
        split <;> omega
      have hfk := fun w => firstKind_any (x / 128) w
      generalize x / 128 = g at *
      have hpl := fun w => place_any b j g w h1 h2 h3 h4 hgr.1 hgr.2
      unfold grpA at hpl
      have hfk2 : (if g = 0 then (1 : Int) else 3) = (if (decide (g = 0)) = true then 1 else 3) := by simp
      rw [hfk2] at hfk
      generalize decide (g = 0) = f at *
      generalize gMap b g = m at *
      generalize gData b j g = dd at *
      generalize gLen b g = ll at *
      have hki := fun w => kindIn_any f (128 * g) ll m (m + 1) (m + 2) dd x w hmr.1 hmr.2
      generalize (if f = true then (1 : Int) else 3) = fk at *
      clear hok hx hgr hmr hfk2 HK
      go_enter Try.func28, Try.ntmps28
      go_wp2_with (first
          | (go_at_call 14; refine (hck _).mono ?_; rintro e w1 ⟨rfl, hb1⟩; have k1 := b0.kept hb1; have c0 := k1.cell' (i := 0) rfl; have c1 := k1.cell' (i := 1) rfl)
          | (go_at_call 24; refine (hgo _).mono ?_; rintro e w2 ⟨rfl, hb2⟩; have k2 := k1.kept hb2; have d0 := k2.cell' (i := 0) rfl; have d1 := k2.cell' (i := 1) rfl)
          | (go_at_call 46; refine (hpl _).mono ?_; rintro e w3 ⟨rfl, hb3⟩)
          | (go_at_call 53; refine (hfk _).mono ?_; rintro e w' ⟨rfl, hw'⟩; have hw2 := hw'.symm; subst hw2; clear hw')
          | (go_at_call 52; refine (hki _).mono ?_; rintro e w4 ⟨rfl, hb4⟩))
      go_ret
      exact ⟨rfl, bt (bt (bt (bt hb0 hb1) hb2) hb3) hb4⟩
    · rw [(gof_no (b := b) (j := j) (x := x) (by omega)).1, (gof_no (b := b) (j := j) (x := x) (by omega)).2] at hgo
      rw [show kindN b j x = 8 from by unfold kindN; rw [if_pos hok, if_neg hx]]
      clear hok
      go_enter Try.func28, Try.ntmps28
      go_wp2_with (first
          | (go_at_call 14; refine (hck _).mono ?_; rintro e w1 ⟨rfl, hb1⟩; have k1 := b0.kept hb1; have c0 := k1.cell' (i := 0) rfl; have c1 := k1.cell' (i := 1) rfl)
          | (go_at_call 24; refine (hgo _).mono ?_; rintro e w2 ⟨rfl, hb2⟩))
      go_ret
      exact ⟨rfl, bt (bt hb0 hb1) hb2⟩
/-- Where an inode stands: the error, the block, the byte. -/
def inoE (b j i : Int) : Int := if okS b j then (if 1 ≤ i ∧ i ≤ 16 * gN b then 0 else 1) else 110
def inoB (b j i : Int) : Int := if inoE b j i = 0 then gMap b ((i - 1) / 16) + 2 + (i - 1) % 16 / 4 else 0
def inoO (b j i : Int) : Int := if inoE b j i = 0 then (i - 1) % 4 * 64 else 0
theorem ino_no {b j i : Int} (h : okS b j = false) : inoE b j i = 110 ∧ inoB b j i = 0 ∧ inoO b j i = 0 := by
  have e : inoE b j i = 110 := by unfold inoE; rw [h]; rfl
  exact ⟨e, by unfold inoB; rw [e]; rfl, by unfold inoO; rw [e]; rfl⟩
theorem ino_far {b j i : Int} (h : okS b j = true) (hi : ¬ (1 ≤ i ∧ i ≤ 16 * gN b)) : inoE b j i = 1 ∧ inoB b j i = 0 ∧ inoO b j i = 0 := by
  have e : inoE b j i = 1 := by unfold inoE; rw [if_pos h, if_neg hi]
  exact ⟨e, by unfold inoB; rw [e]; rfl, by unfold inoO; rw [e]; rfl⟩
theorem ino_ok {b j i : Int} (h : okS b j = true) (hi : 1 ≤ i ∧ i ≤ 16 * gN b) : inoE b j i = 0 ∧ inoB b j i = gMap b ((i - 1) / 16) + 2 + (i - 1) % 16 / 4 ∧ inoO b j i = (i - 1) % 4 * 64 := by
  have e : inoE b j i = 0 := by unfold inoE; rw [if_pos h, if_pos hi]
  exact ⟨e, by unfold inoB; rw [e]; rfl, by unfold inoO; rw [e]; rfl⟩
theorem gMap_rng {b g : Int} (h1 : 1 ≤ b) (h2 : b ≤ 8192) (h3 : 0 ≤ g) (h4 : g ≤ 64) : 0 ≤ gMap b g ∧ gMap b g ≤ 8192 := by
  have hd := dN_rng h1 h2
  unfold gMap
  split <;> omega
theorem run_field4 (x0 x1 x2 x3 x4 x5 : Int) (W : World) : (Instr.field 30 (.agg #[.int .i64 x0, .int .i64 x1, .int .i64 x2, .int .i64 x3, .int .i64 x4, .int .i64 x5]) 4).run Try.prog W = .ok (.int .i64 x4) W := by
  kernel_rfl
set_option linter.unusedSimpArgs false in
set_option maxHeartbeats 4000000 in
set_option maxRecDepth 100000 in
theorem inodeAt_any (b j i : Int) (w : World) : Calls Try.prog 26 #[.agg #[.int .i64 b, .int .i64 j], .int .i64 i] w fun e w' => e = .returned (.tuple #[.int .i64 (inoB b j i), .int .i64 (inoO b j i), .int .i64 (inoE b j i)]) ∧ Below w.heap.size w w' := by
  have hb0 := below_alloc w (.cells #[.int .i64 b, .int .i64 j] 24)
  have b0 := Blk.new' w 24 #[.int .i64 b, .int .i64 j]
  have hck := fun w => check_any b j w
  cases hok : okS b j with
  | false =>
    rw [chk_no hok] at hck
    rw [(ino_no hok).1, (ino_no hok).2.1, (ino_no hok).2.2]
    clear hok
    go_enter Try.func26, Try.ntmps26
    go_wp2_with (go_at_call 14; refine (hck _).mono ?_; rintro e w1 ⟨rfl, hb1⟩; have k1 := b0.kept hb1; have c0 := k1.cell' (i := 0) rfl; have c1 := k1.cell' (i := 1) rfl)
    go_ret3
    exact ⟨rfl, bt hb0 hb1⟩
  | true =>
    rw [chk_ok hok] at hck
    obtain ⟨h1, h2, h3, h4, -⟩ := okS_iff.1 hok
    have hin := fun w => inodes_any b j w
    rw [show grpsN b j = gN b from by unfold grpsN; rw [hok]; rfl] at hin
    have hgr := gN_rng h1 h2
    by_cases hi : 1 ≤ i ∧ i ≤ 16 * gN b
    · rw [(ino_ok hok hi).1, (ino_ok hok hi).2.1, (ino_ok hok hi).2.2]
      have hq1 : 0 ≤ (i - 1) / 16 := by omega
      have hq2 : (i - 1) / 16 ≤ 64 := by omega
      have hm := gMap_rng h1 h2 hq1 hq2
      have hpl := fun w => place_any b j ((i - 1) / 16) w h1 h2 h3 h4 hq1 hq2
      unfold grpA at hpl
      generalize gMap b ((i - 1) / 16) = m at *
      generalize gData b j ((i - 1) / 16) = dd at *
      generalize gLen b ((i - 1) / 16) = ll at *
      have hfd := run_field4 (128 * ((i - 1) / 16)) ll m (m + 1) (m + 2) dd
      have hi1 := hi.1
      have hi2 := hi.2
      generalize gN b = n at *
      have hn2 := hgr.2
      have hm1 := hm.1
      have hm2 := hm.2
      clear hok hi hgr hm
      go_enter Try.func26, Try.ntmps26
      go_wp2_with (first
          | (go_at_call 14; refine (hck _).mono ?_; rintro e w1 ⟨rfl, hb1⟩; have k1 := b0.kept hb1; have c0 := k1.cell' (i := 0) rfl; have c1 := k1.cell' (i := 1) rfl)
          | (go_at_call 22; refine (hin _).mono ?_; rintro e w2 ⟨rfl, hb2⟩; have k2 := k1.kept hb2; have d0 := k2.cell' (i := 0) rfl; have d1 := k2.cell' (i := 1) rfl)
          | (go_at_call 43; refine (within_yes _ (by omega) (by omega)).mono ?_; rintro e w' ⟨rfl, hw'⟩; have hw2 := hw'.symm; subst hw2; clear hw')
          | (go_at_call 46; refine (hpl _).mono ?_; rintro e w3 ⟨rfl, hb3⟩))
      go_ret3
      exact ⟨rfl, bt (bt (bt hb0 hb1) hb2) hb3⟩
    · rw [(ino_far hok hi).1, (ino_far hok hi).2.1, (ino_far hok hi).2.2]
      generalize gN b = n at *
      clear hok hgr
      go_enter Try.func26, Try.ntmps26
      go_wp2_with (first
          | (go_at_call 14; refine (hck _).mono ?_; rintro e w1 ⟨rfl, hb1⟩; have k1 := b0.kept hb1; have c0 := k1.cell' (i := 0) rfl; have c1 := k1.cell' (i := 1) rfl)
          | (go_at_call 22; refine (hin _).mono ?_; rintro e w2 ⟨rfl, hb2⟩)
          | (go_at_call 43; refine (within_no _ hi).mono ?_; rintro e w' ⟨rfl, hw'⟩; have hw2 := hw'.symm; subst hw2; clear hw'))
      go_ret3
      exact ⟨rfl, bt (bt hb0 hb1) hb2⟩
end Go.Proofs.Ytbimcdaplnmjdaa
