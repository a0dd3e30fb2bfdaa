/-
  What layout.Check, Groups, Descs and Journal answer.
-/
import Derived.Test.YtbimcdaplnmjdaaLyPlace2
namespace Go.Proofs.Ytbimcdaplnmjdaa
open Go.RowKit
set_option linter.unusedSimpArgs false in
set_option maxHeartbeats 4000000 in
set_option maxRecDepth 100000 in
theorem check_any (b j : Int) (w : World) : Calls Try.prog 14 #[.agg #[.int .i64 b, .int .i64 j]] w fun e w' => e = .returned (.int .i64 (chkE b j)) ∧ Below w.heap.size w w' := by
  have hb0 := below_alloc w (.cells #[.int .i64 b, .int .i64 j] 24)
  have b0 := Blk.new' w 24 #[.int .i64 b, .int .i64 j]
  by_cases h1 : 1 ≤ b
  · by_cases h2 : b ≤ 8192
    · by_cases h3 : 16 ≤ j
      · by_cases h4 : j ≤ 64
        · obtain ⟨l, HL⟩ : ∃ l, Hid (lastL b = l) := ⟨_, rfl⟩
          by_cases h5 : l < 16
          · rw [chk_no (okS_no (by rw [HL.out]; omega))]
            have c0 := b0.cell' (i := 0) rfl
            go_enter Try.func14, Try.ntmps14
            go_wp2_with (first
                | (go_at_call 43; refine (within_any _ _ _ _).mono ?_; rintro e w' ⟨rfl, hw'⟩; have hw2 := hw'.symm; subst hw2; clear hw')
                | (go_at_call 44; refine (lastLen_any b j _ h1 h2).mono ?_; rintro e w1 ⟨rfl, hb1⟩; have k1 := b0.kept hb1; have c0 := k1.cell' (i := 0) rfl; have c1 := k1.cell' (i := 1) rfl; rw [HL.out]))
            go_ret
            exact ⟨rfl, (bt hb0 hb1)⟩
          · obtain ⟨d, HD⟩ : ∃ d, Hid (dN b = d) := ⟨_, rfl⟩
            have hd1 : 1 ≤ d := by rw [← HD.out]; exact (dN_rng h1 h2).1
            have hd2 : d ≤ 4 := by rw [← HD.out]; exact (dN_rng h1 h2).2
            obtain ⟨m, HM⟩ : ∃ m, Hid (min 128 b = m) := ⟨_, rfl⟩
            have hm1 : 1 ≤ m := by have := HM.out; omega
            have hm2 : m ≤ 128 := by have := HM.out; omega
            have hp : ∀ w : World, Calls Try.prog 46 #[.agg #[.int .i64 b, .int .i64 j], .int .i64 0] w fun e w' => e = .returned (.agg #[.int .i64 0, .int .i64 m, .int .i64 (1 + d), .int .i64 (1 + d + 1), .int .i64 (1 + d + 2), .int .i64 (7 + d + j)]) ∧ Below w.heap.size w w' := by
              intro w
              have := place_zero b j w h1 h2 h3 h4
              unfold grpA gMap gData gLen at this
              rw [HD.out] at this
              simp only [if_pos, Int.mul_zero, Int.sub_zero] at this
              rw [HM.out] at this
              exact this
            by_cases h6 : 8 + d + j ≤ m
            · rw [chk_ok (okS_iff.2 ⟨h1, h2, h3, h4, by rw [HL.out]; omega, by rw [HD.out, HM.out]; exact h6⟩)]
              have h7 : ¬ 0 + m - (7 + d + j) < 1 := by omega
              go_enter Try.func14, Try.ntmps14
              go_wp2_with (first
                  | (go_at_call 43; refine (within_any _ _ _ _).mono ?_; rintro e w' ⟨rfl, hw'⟩; have hw2 := hw'.symm; subst hw2; clear hw')
                  | (go_at_call 44; refine (lastLen_any b j _ h1 h2).mono ?_; rintro e w1 ⟨rfl, hb1⟩; have k1 := b0.kept hb1; have c0 := k1.cell' (i := 0) rfl; have c1 := k1.cell' (i := 1) rfl; rw [HL.out])
                  | (go_at_call 46; refine (hp _).mono ?_; rintro e w2 ⟨rfl, hb2⟩)
                  | (go_at_call 47; refine (room_any _ _ _ _ _ _ _ (by omega) (by omega) (by omega)).mono ?_; rintro e w3 ⟨rfl, hb3⟩))
              go_ret
              exact ⟨rfl, (bt (bt (bt hb0 hb1) hb2) hb3)⟩
            · rw [chk_no (okS_no (by rw [HD.out, HM.out]; omega))]
              have h7 : 0 + m - (7 + d + j) < 1 := by omega
              go_enter Try.func14, Try.ntmps14
              go_wp2_with (first
                  | (go_at_call 43; refine (within_any _ _ _ _).mono ?_; rintro e w' ⟨rfl, hw'⟩; have hw2 := hw'.symm; subst hw2; clear hw')
                  | (go_at_call 44; refine (lastLen_any b j _ h1 h2).mono ?_; rintro e w1 ⟨rfl, hb1⟩; have k1 := b0.kept hb1; have c0 := k1.cell' (i := 0) rfl; have c1 := k1.cell' (i := 1) rfl; rw [HL.out])
                  | (go_at_call 46; refine (hp _).mono ?_; rintro e w2 ⟨rfl, hb2⟩)
                  | (go_at_call 47; refine (room_any _ _ _ _ _ _ _ (by omega) (by omega) (by omega)).mono ?_; rintro e w3 ⟨rfl, hb3⟩))
              go_ret
              exact ⟨rfl, (bt (bt (bt hb0 hb1) hb2) hb3)⟩
        · rw [chk_no (okS_no (by omega))]
          clear b0
          go_enter Try.func14, Try.ntmps14
          go_wp2_with (go_at_call 43; refine (within_any _ _ _ _).mono ?_; rintro e w' ⟨rfl, hw'⟩; have hw2 := hw'.symm; subst hw2; clear hw')
          go_ret
          exact ⟨rfl, hb0⟩
      · rw [chk_no (okS_no (by omega))]
        clear b0
        go_enter Try.func14, Try.ntmps14
        go_wp2_with (go_at_call 43; refine (within_any _ _ _ _).mono ?_; rintro e w' ⟨rfl, hw'⟩; have hw2 := hw'.symm; subst hw2; clear hw')
        go_ret
        exact ⟨rfl, hb0⟩
    · rw [chk_no (okS_no (by omega))]
      clear b0
      go_enter Try.func14, Try.ntmps14
      go_wp2_with (go_at_call 43; refine (within_any _ _ _ _).mono ?_; rintro e w' ⟨rfl, hw'⟩; have hw2 := hw'.symm; subst hw2; clear hw')
      go_ret
      exact ⟨rfl, hb0⟩
  · rw [chk_no (okS_no (by omega))]
    clear b0
    go_enter Try.func14, Try.ntmps14
    go_wp2_with (go_at_call 43; refine (within_any _ _ _ _).mono ?_; rintro e w' ⟨rfl, hw'⟩; have hw2 := hw'.symm; subst hw2; clear hw')
    go_ret
    exact ⟨rfl, hb0⟩
end Go.Proofs.Ytbimcdaplnmjdaa
