/-
  What Capacity and the reference's Capacity answer.
-/
import Derived.Test.YtigkfmdhmonjlaaPoBlk
namespace Go.Proofs.Ytigkfmdhmonjlaa
open Go.RowKit
def geoB (nb np : Int) : Bool := (decide (16 ≤ nb) && decide (nb ≤ 256)) && (decide (4 ≤ np) && decide (np ≤ 32)) && decide (nb ≤ 16 * np)
def argB (nb bad logs res : Int) : Bool := (decide (0 ≤ bad) && decide (bad ≤ nb)) && (decide (1 ≤ logs) && decide (logs ≤ 8)) && (decide (0 ≤ res) && decide (res ≤ nb))
def capN (nb np bad logs res : Int) : Int := if geoB nb np && argB nb bad logs res && decide (1 ≤ nb - bad - (logs + 1) - 4 - res) then nb - bad - (logs + 1) - 4 - res else 0
def capE (nb np bad logs res : Int) : Int := if geoB nb np then (if argB nb bad logs res then (if 1 ≤ nb - bad - (logs + 1) - 4 - res then 0 else 42) else 1) else 20
theorem geoB_iff {nb np : Int} : geoB nb np = true ↔ (16 ≤ nb ∧ nb ≤ 256) ∧ (4 ≤ np ∧ np ≤ 32) ∧ nb ≤ 16 * np := by
  simp only [geoB, Bool.and_eq_true, decide_eq_true_eq]
  constructor
  · rintro ⟨⟨h1, h2⟩, h3⟩; exact ⟨h1, h2, h3⟩
  · rintro ⟨h1, h2, h3⟩; exact ⟨⟨h1, h2⟩, h3⟩
theorem argB_iff {nb bad logs res : Int} : argB nb bad logs res = true ↔ (0 ≤ bad ∧ bad ≤ nb) ∧ (1 ≤ logs ∧ logs ≤ 8) ∧ (0 ≤ res ∧ res ≤ nb) := by
  simp only [argB, Bool.and_eq_true, decide_eq_true_eq]
  constructor
  · rintro ⟨⟨h1, h2⟩, h3⟩; exact ⟨h1, h2, h3⟩
  · rintro ⟨h1, h2, h3⟩; exact ⟨⟨h1, h2⟩, h3⟩
theorem bfalse {b : Bool} {P : Prop} (h : b = true ↔ P) (hn : ¬ P) : b = false := by cases b with | false => rfl | true => exact absurd (h.1 rfl) hn
theorem two_yes {a b c : Int} (h : b ≤ a ∧ a ≤ c) : (decide (b ≤ a) && decide (a ≤ c)) = true := by rw [decide_eq_true h.1, decide_eq_true h.2]; rfl
theorem two_no {a b c : Int} (h : ¬ (b ≤ a ∧ a ≤ c)) : (decide (b ≤ a) && decide (a ≤ c)) = false := by rw [Bool.and_eq_false_iff, decide_eq_false_iff_not, decide_eq_false_iff_not]; omega
theorem mayBe_any (nb np : Int) (w : World) : Calls Try.prog 44 #[.agg #[.int .i64 nb, .int .i64 np]] w fun e w' => e = .returned (.bool (geoB nb np)) ∧ Below w.heap.size w w' := by
  by_cases h1 : 16 ≤ nb ∧ nb ≤ 256
  · have H1 : Hid ((decide (16 ≤ nb) && decide (nb ≤ 256)) = true) := two_yes h1
    by_cases h2 : 4 ≤ np ∧ np ≤ 32
    · have H2 : Hid ((decide (4 ≤ np) && decide (np ≤ 32)) = true) := two_yes h2
      have hm : IntKind.i64.wrap (16 * np) = 16 * np := by rw [IntKind.wrap_i64]; omega
      by_cases h3 : nb ≤ 16 * np
      · have HE : Hid (geoB nb np = true) := geoB_iff.2 ⟨h1, h2, h3⟩
        clear h1
        go_enter Try.func44, Try.ntmps44
        go_wp2_with (go_at_call 41; refine (within_any _ _ _ _).mono ?_; rintro e w' ⟨rfl, hw'⟩; have hw2 := hw'.symm; subst hw2; clear hw'; first | rw [H1.out] | rw [H2.out])
        go_ret
        exact ⟨ret_bool HE.out.symm, below_alloc _ _⟩
      · have HE : Hid (geoB nb np = false) := bfalse geoB_iff (fun h => h3 h.2.2)
        clear h1
        go_enter Try.func44, Try.ntmps44
        go_wp2_with (go_at_call 41; refine (within_any _ _ _ _).mono ?_; rintro e w' ⟨rfl, hw'⟩; have hw2 := hw'.symm; subst hw2; clear hw'; first | rw [H1.out] | rw [H2.out])
        go_ret
        exact ⟨ret_bool ((decide_eq_false (by omega)).trans HE.out.symm), below_alloc _ _⟩
    · have H2 : Hid ((decide (4 ≤ np) && decide (np ≤ 32)) = false) := two_no h2
      have HE : Hid (geoB nb np = false) := bfalse geoB_iff (fun h => h2 h.2.1)
      clear h1 h2
      go_enter Try.func44, Try.ntmps44
      go_wp2_with (go_at_call 41; refine (within_any _ _ _ _).mono ?_; rintro e w' ⟨rfl, hw'⟩; have hw2 := hw'.symm; subst hw2; clear hw'; first | rw [H1.out] | rw [H2.out])
      go_ret
      exact ⟨ret_bool HE.out.symm, below_alloc _ _⟩
  · have H1 : Hid ((decide (16 ≤ nb) && decide (nb ≤ 256)) = false) := two_no h1
    have HE : Hid (geoB nb np = false) := bfalse geoB_iff (fun h => h1 h.1)
    clear h1
    go_enter Try.func44, Try.ntmps44
    go_wp2_with (go_at_call 41; refine (within_any _ _ _ _).mono ?_; rintro e w' ⟨rfl, hw'⟩; have hw2 := hw'.symm; subst hw2; clear hw'; first | rw [H1.out])
    go_ret
    exact ⟨ret_bool HE.out.symm, below_alloc _ _⟩
set_option maxHeartbeats 1000000 in
theorem cap_any (nb np bad logs res : Int) (w : World) : Calls Try.prog 11 #[.agg #[.int .i64 nb, .int .i64 np], .int .i64 bad, .int .i64 logs, .int .i64 res] w fun e w' => e = .returned (.tuple #[.int .i64 (capN nb np bad logs res), .int .i64 (capE nb np bad logs res)]) ∧ Below w.heap.size w w' := by
  have b0 := Blk.new' w 27 #[.int .i64 nb, .int .i64 np]
  cases hg : geoB nb np with
  | false =>
    have HG : Hid (geoB nb np = false) := hg
    have HN : Hid (capN nb np bad logs res = 0) := by show _ = _; unfold capN; rw [hg]; rfl
    have HE : Hid (capE nb np bad logs res = 20) := by show _ = _; unfold capE; rw [hg]; rfl
    clear hg
    go_enter Try.func11, Try.ntmps11
    go_wp2_with (first | (go_at_call 44; refine (mayBe_any nb np _).mono ?_; rintro e w1 ⟨rfl, hb1⟩; rw [HG.out]; have b1 := b0.kept hb1; have c0 := b1.cell' (i := 0) rfl))
    go_ret2
    rw [HN.out, HE.out]
    exact ⟨rfl, bt (below_alloc _ _) hb1⟩
  | true =>
    have HG : Hid (geoB nb np = true) := hg
    have hgg := geoB_iff.1 hg
    by_cases h1 : 0 ≤ bad ∧ bad ≤ nb
    · have H1 : Hid ((decide (0 ≤ bad) && decide (bad ≤ nb)) = true) := two_yes h1
      by_cases h2 : 1 ≤ logs ∧ logs ≤ 8
      · have H2 : Hid ((decide (1 ≤ logs) && decide (logs ≤ 8)) = true) := two_yes h2
        by_cases h3 : 0 ≤ res ∧ res ≤ nb
        · have H3 : Hid ((decide (0 ≤ res) && decide (res ≤ nb)) = true) := two_yes h3
          have HA : argB nb bad logs res = true := argB_iff.2 ⟨h1, h2, h3⟩
          by_cases h4 : 1 ≤ nb - bad - (logs + 1) - 4 - res
          · have HN : Hid (capN nb np bad logs res = nb - bad - (logs + 1) - 4 - res) := by show _ = _; unfold capN; rw [hg, HA, decide_eq_true h4]; rfl
            have HE : Hid (capE nb np bad logs res = 0) := by show _ = _; unfold capE; rw [hg, HA, if_pos h4]; rfl
            have h5 : ¬ nb - bad - (logs + 1) - 4 - res < 1 := by omega
            clear HA hg h4
            go_enter Try.func11, Try.ntmps11
            go_wp2_with (first | (go_at_call 44; refine (mayBe_any nb np _).mono ?_; rintro e w1 ⟨rfl, hb1⟩; rw [HG.out]; have b1 := b0.kept hb1; have c0 := b1.cell' (i := 0) rfl) | (go_at_call 41; refine (within_any _ _ _ _).mono ?_; rintro e w' ⟨rfl, hw'⟩; have hw2 := hw'.symm; subst hw2; clear hw'; first | rw [H1.out] | rw [H2.out] | rw [H3.out]))
            go_ret2
            rw [HN.out, HE.out]
            exact ⟨rfl, bt (below_alloc _ _) hb1⟩
          · have HN : Hid (capN nb np bad logs res = 0) := by show _ = _; unfold capN; rw [hg, HA, decide_eq_false h4]; rfl
            have HE : Hid (capE nb np bad logs res = 42) := by show _ = _; unfold capE; rw [hg, HA, if_neg h4]; rfl
            have h5 : nb - bad - (logs + 1) - 4 - res < 1 := by omega
            clear HA hg h4
            go_enter Try.func11, Try.ntmps11
            go_wp2_with (first | (go_at_call 44; refine (mayBe_any nb np _).mono ?_; rintro e w1 ⟨rfl, hb1⟩; rw [HG.out]; have b1 := b0.kept hb1; have c0 := b1.cell' (i := 0) rfl) | (go_at_call 41; refine (within_any _ _ _ _).mono ?_; rintro e w' ⟨rfl, hw'⟩; have hw2 := hw'.symm; subst hw2; clear hw'; first | rw [H1.out] | rw [H2.out] | rw [H3.out]))
            go_ret2
            rw [HN.out, HE.out]
            exact ⟨rfl, bt (below_alloc _ _) hb1⟩
        · have H3 : Hid ((decide (0 ≤ res) && decide (res ≤ nb)) = false) := two_no h3
          have HA : argB nb bad logs res = false := bfalse argB_iff (fun h => h3 h.2.2)
          have HN : Hid (capN nb np bad logs res = 0) := by show _ = _; unfold capN; rw [HA, Bool.and_false]; rfl
          have HE : Hid (capE nb np bad logs res = 1) := by show _ = _; unfold capE; rw [hg, HA]; rfl
          clear HA hg hgg
          clear h1 h2 h3
          go_enter Try.func11, Try.ntmps11
          go_wp2_with (first | (go_at_call 44; refine (mayBe_any nb np _).mono ?_; rintro e w1 ⟨rfl, hb1⟩; rw [HG.out]; have b1 := b0.kept hb1; have c0 := b1.cell' (i := 0) rfl) | (go_at_call 41; refine (within_any _ _ _ _).mono ?_; rintro e w' ⟨rfl, hw'⟩; have hw2 := hw'.symm; subst hw2; clear hw'; first | rw [H1.out] | rw [H2.out] | rw [H3.out]))
          go_ret2
          rw [HN.out, HE.out]
          exact ⟨rfl, bt (below_alloc _ _) hb1⟩
      · have H2 : Hid ((decide (1 ≤ logs) && decide (logs ≤ 8)) = false) := two_no h2
        have HA : argB nb bad logs res = false := bfalse argB_iff (fun h => h2 h.2.1)
        have HN : Hid (capN nb np bad logs res = 0) := by show _ = _; unfold capN; rw [HA, Bool.and_false]; rfl
        have HE : Hid (capE nb np bad logs res = 1) := by show _ = _; unfold capE; rw [hg, HA]; rfl
        clear HA hg hgg
        clear h1 h2
        go_enter Try.func11, Try.ntmps11
        go_wp2_with (first | (go_at_call 44; refine (mayBe_any nb np _).mono ?_; rintro e w1 ⟨rfl, hb1⟩; rw [HG.out]; have b1 := b0.kept hb1; have c0 := b1.cell' (i := 0) rfl) | (go_at_call 41; refine (within_any _ _ _ _).mono ?_; rintro e w' ⟨rfl, hw'⟩; have hw2 := hw'.symm; subst hw2; clear hw'; first | rw [H1.out] | rw [H2.out]))
        go_ret2
        rw [HN.out, HE.out]
        exact ⟨rfl, bt (below_alloc _ _) hb1⟩
    · have H1 : Hid ((decide (0 ≤ bad) && decide (bad ≤ nb)) = false) := two_no h1
      have HA : argB nb bad logs res = false := bfalse argB_iff (fun h => h1 h.1)
      have HN : Hid (capN nb np bad logs res = 0) := by show _ = _; unfold capN; rw [HA, Bool.and_false]; rfl
      have HE : Hid (capE nb np bad logs res = 1) := by show _ = _; unfold capE; rw [hg, HA]; rfl
      clear HA hg hgg
      clear h1
      go_enter Try.func11, Try.ntmps11
      go_wp2_with (first | (go_at_call 44; refine (mayBe_any nb np _).mono ?_; rintro e w1 ⟨rfl, hb1⟩; rw [HG.out]; have b1 := b0.kept hb1; have c0 := b1.cell' (i := 0) rfl) | (go_at_call 41; refine (within_any _ _ _ _).mono ?_; rintro e w' ⟨rfl, hw'⟩; have hw2 := hw'.symm; subst hw2; clear hw'; first | rw [H1.out]))
      go_ret2
      rw [HN.out, HE.out]
      exact ⟨rfl, bt (below_alloc _ _) hb1⟩
set_option maxHeartbeats 2000000 in
theorem rcap_any (nb np bad logs res : Int) (w : World) : Calls Try.prog 12 #[.agg #[.int .i64 nb, .int .i64 np], .int .i64 bad, .int .i64 logs, .int .i64 res] w fun e w' => e = .returned (.tuple #[.int .i64 (capN nb np bad logs res), .int .i64 (capE nb np bad logs res)]) ∧ Below w.heap.size w w' := by
  by_cases k0 : nb < 16
  · have HG : geoB nb np = false := bfalse geoB_iff (fun h => by omega)
    have HN : Hid (capN nb np bad logs res = 0) := by show _ = _; unfold capN; rw [HG]; rfl
    have HE : Hid (capE nb np bad logs res = 20) := by show _ = _; unfold capE; rw [HG]; rfl
    clear HG
    go_enter Try.func12, Try.ntmps12
    go_wp2
    go_ret2
    rw [HN.out, HE.out]
    exact ⟨rfl, below_alloc _ _⟩
  · by_cases k1 : 256 < nb
    · have HG : geoB nb np = false := bfalse geoB_iff (fun h => by omega)
      have HN : Hid (capN nb np bad logs res = 0) := by show _ = _; unfold capN; rw [HG]; rfl
      have HE : Hid (capE nb np bad logs res = 20) := by show _ = _; unfold capE; rw [HG]; rfl
      clear HG
      go_enter Try.func12, Try.ntmps12
      go_wp2
      go_ret2
      rw [HN.out, HE.out]
      exact ⟨rfl, below_alloc _ _⟩
    · by_cases k2 : np < 4
      · have HG : geoB nb np = false := bfalse geoB_iff (fun h => by omega)
        have HN : Hid (capN nb np bad logs res = 0) := by show _ = _; unfold capN; rw [HG]; rfl
        have HE : Hid (capE nb np bad logs res = 20) := by show _ = _; unfold capE; rw [HG]; rfl
        clear HG
        go_enter Try.func12, Try.ntmps12
        go_wp2
        go_ret2
        rw [HN.out, HE.out]
        exact ⟨rfl, below_alloc _ _⟩
      · by_cases k3 : 32 < np
        · have HG : geoB nb np = false := bfalse geoB_iff (fun h => by omega)
          have HN : Hid (capN nb np bad logs res = 0) := by show _ = _; unfold capN; rw [HG]; rfl
          have HE : Hid (capE nb np bad logs res = 20) := by show _ = _; unfold capE; rw [HG]; rfl
          clear HG
          go_enter Try.func12, Try.ntmps12
          go_wp2
          go_ret2
          rw [HN.out, HE.out]
          exact ⟨rfl, below_alloc _ _⟩
        · have hm : IntKind.i64.wrap (16 * np) = 16 * np := by rw [IntKind.wrap_i64]; omega
          by_cases k4 : 16 * np < nb
          · have HG : geoB nb np = false := bfalse geoB_iff (fun h => by omega)
            have HN : Hid (capN nb np bad logs res = 0) := by show _ = _; unfold capN; rw [HG]; rfl
            have HE : Hid (capE nb np bad logs res = 20) := by show _ = _; unfold capE; rw [HG]; rfl
            clear HG
            go_enter Try.func12, Try.ntmps12
            go_wp2
            go_ret2
            rw [HN.out, HE.out]
            exact ⟨rfl, below_alloc _ _⟩
          · by_cases k5 : bad < 0
            · have HG : geoB nb np = true := geoB_iff.2 ⟨⟨by omega, by omega⟩, ⟨by omega, by omega⟩, by omega⟩
              have HA : argB nb bad logs res = false := bfalse argB_iff (fun h => by omega)
              have HN : Hid (capN nb np bad logs res = 0) := by show _ = _; unfold capN; rw [HA, Bool.and_false]; rfl
              have HE : Hid (capE nb np bad logs res = 1) := by show _ = _; unfold capE; rw [HG, HA]; rfl
              clear HG HA
              go_enter Try.func12, Try.ntmps12
              go_wp2
              go_ret2
              rw [HN.out, HE.out]
              exact ⟨rfl, below_alloc _ _⟩
            · by_cases k6 : nb < bad
              · have HG : geoB nb np = true := geoB_iff.2 ⟨⟨by omega, by omega⟩, ⟨by omega, by omega⟩, by omega⟩
                have HA : argB nb bad logs res = false := bfalse argB_iff (fun h => by omega)
                have HN : Hid (capN nb np bad logs res = 0) := by show _ = _; unfold capN; rw [HA, Bool.and_false]; rfl
                have HE : Hid (capE nb np bad logs res = 1) := by show _ = _; unfold capE; rw [HG, HA]; rfl
                clear HG HA
                go_enter Try.func12, Try.ntmps12
                go_wp2
                go_ret2
                rw [HN.out, HE.out]
                exact ⟨rfl, below_alloc _ _⟩
              · by_cases k7 : logs < 1
                · have HG : geoB nb np = true := geoB_iff.2 ⟨⟨by omega, by omega⟩, ⟨by omega, by omega⟩, by omega⟩
                  have HA : argB nb bad logs res = false := bfalse argB_iff (fun h => by omega)
                  have HN : Hid (capN nb np bad logs res = 0) := by show _ = _; unfold capN; rw [HA, Bool.and_false]; rfl
                  have HE : Hid (capE nb np bad logs res = 1) := by show _ = _; unfold capE; rw [HG, HA]; rfl
                  clear HG HA
                  go_enter Try.func12, Try.ntmps12
                  go_wp2
                  go_ret2
                  rw [HN.out, HE.out]
                  exact ⟨rfl, below_alloc _ _⟩
                · by_cases k8 : 8 < logs
                  · have HG : geoB nb np = true := geoB_iff.2 ⟨⟨by omega, by omega⟩, ⟨by omega, by omega⟩, by omega⟩
                    have HA : argB nb bad logs res = false := bfalse argB_iff (fun h => by omega)
                    have HN : Hid (capN nb np bad logs res = 0) := by show _ = _; unfold capN; rw [HA, Bool.and_false]; rfl
                    have HE : Hid (capE nb np bad logs res = 1) := by show _ = _; unfold capE; rw [HG, HA]; rfl
                    clear HG HA
                    go_enter Try.func12, Try.ntmps12
                    go_wp2
                    go_ret2
                    rw [HN.out, HE.out]
                    exact ⟨rfl, below_alloc _ _⟩
                  · by_cases k9 : res < 0
                    · have HG : geoB nb np = true := geoB_iff.2 ⟨⟨by omega, by omega⟩, ⟨by omega, by omega⟩, by omega⟩
                      have HA : argB nb bad logs res = false := bfalse argB_iff (fun h => by omega)
                      have HN : Hid (capN nb np bad logs res = 0) := by show _ = _; unfold capN; rw [HA, Bool.and_false]; rfl
                      have HE : Hid (capE nb np bad logs res = 1) := by show _ = _; unfold capE; rw [HG, HA]; rfl
                      clear HG HA
                      go_enter Try.func12, Try.ntmps12
                      go_wp2
                      go_ret2
                      rw [HN.out, HE.out]
                      exact ⟨rfl, below_alloc _ _⟩
                    · by_cases k10 : nb < res
                      · have HG : geoB nb np = true := geoB_iff.2 ⟨⟨by omega, by omega⟩, ⟨by omega, by omega⟩, by omega⟩
                        have HA : argB nb bad logs res = false := bfalse argB_iff (fun h => by omega)
                        have HN : Hid (capN nb np bad logs res = 0) := by show _ = _; unfold capN; rw [HA, Bool.and_false]; rfl
                        have HE : Hid (capE nb np bad logs res = 1) := by show _ = _; unfold capE; rw [HG, HA]; rfl
                        clear HG HA
                        go_enter Try.func12, Try.ntmps12
                        go_wp2
                        go_ret2
                        rw [HN.out, HE.out]
                        exact ⟨rfl, below_alloc _ _⟩
                      · have HG : geoB nb np = true := geoB_iff.2 ⟨⟨by omega, by omega⟩, ⟨by omega, by omega⟩, by omega⟩
                        have HA : argB nb bad logs res = true := argB_iff.2 ⟨⟨by omega, by omega⟩, ⟨by omega, by omega⟩, by omega, by omega⟩
                        by_cases hl : nb - bad - logs - 1 - 4 - res < 1
                        · have HN : Hid (capN nb np bad logs res = 0) := by show _ = _; unfold capN; rw [HG, HA, decide_eq_false (by omega)]; rfl
                          have HE : Hid (capE nb np bad logs res = 42) := by show _ = _; unfold capE; rw [HG, HA, if_neg (show ¬ 1 ≤ nb - bad - (logs + 1) - 4 - res by omega)]; rfl
                          clear HG HA
                          go_enter Try.func12, Try.ntmps12
                          go_wp2
                          go_ret2
                          rw [HN.out, HE.out]
                          exact ⟨rfl, below_alloc _ _⟩
                        · have HN : Hid (capN nb np bad logs res = nb - bad - logs - 1 - 4 - res) := by show _ = _; unfold capN; rw [HG, HA, decide_eq_true (by omega)]; show nb - bad - (logs + 1) - 4 - res = _; omega
                          have HE : Hid (capE nb np bad logs res = 0) := by show _ = _; unfold capE; rw [HG, HA, if_pos (show 1 ≤ nb - bad - (logs + 1) - 4 - res by omega)]; rfl
                          clear HG HA
                          go_enter Try.func12, Try.ntmps12
                          go_wp2
                          go_ret2
                          rw [HN.out, HE.out]
                          exact ⟨rfl, below_alloc _ _⟩
end Go.Proofs.Ytigkfmdhmonjlaa
