/-
  What the reference's page answers.
-/
import Derived.Test.YtpikaagdiafieaaMjRecs
namespace Go.Proofs.Ytpikaagdiafieaa
open Go.RowKit
theorem recsR_ok {gen : Int} {l : List MR} (hg : okGen gen) : (recsR gen l).2 = 0 ↔ l.length ≤ 24 ∧ l.all okMR = true := by
  unfold recsR
  rw [if_pos hg]
  constructor
  · intro h
    split at h
    · rename_i h1
      split at h
      · rename_i h2; exact ⟨h1, h2⟩
      · cases h
    · cases h
  · rintro ⟨h1, h2⟩; rw [if_pos h1, if_pos h2]
set_option linter.unusedSimpArgs false in
set_option maxRecDepth 100000 in
set_option maxHeartbeats 4000000 in
theorem rpage_any (V : PV) (P : MP) (w : World) (h : InP w V P) : Calls Try.prog 67 #[V.val P] w fun e w' => e = .returned (.bool (okMP P)) ∧ Below w.heap.size w w' := by
  obtain ⟨pb, nb, cb, pw, nw, cw, pr, nr, cr⟩ := V
  dsimp only [PV.val] at *
  have hbl := below_alloc w (.cells #[.int .i64 P.kind, .int .i64 P.gen, .int .i64 P.part, .int .i64 P.seq, .slice pb nb cb, .slice pw nw cw, .slice pr nr cr] 42)
  have bp : Blk _ _ _ (PV.cells ⟨pb, nb, cb, pw, nw, cw, pr, nr, cr⟩ P) := Blk.new' w 42 #[.int .i64 P.kind, .int .i64 P.gen, .int .i64 P.part, .int .i64 P.seq, .slice pb nb cb, .slice pw nw cw, .slice pr nr cr]
  obtain ⟨z0, z1, z2, z3, z4, z5, z6⟩ := bp.cells7
  have HB : Hid (P.bad.length = nb) := h.b.len
  have HW : Hid (P.wear.length = nw) := h.v.len
  have HR : Hid (P.recs.length = nr) := h.r.len
  have hWb := h.v.below hbl
  have hrec := rrecords_any P.gen pr nr cr P.recs _ (h.r.below hbl)
  clear h
  by_cases hg0 : P.gen < 0
  · skip
    have E : Hid (okMP P = false) := by show _ = _; exact okMP_no (fun h => by (have := h.1.1; omega))
    go_enter Try.func67, Try.ntmps67
    go_wp2
    go_ret
    exact ⟨ret_bool E.out.symm, hbl⟩
  · by_cases hg1 : P.gen > 1152921504606846976
    · skip
      have E : Hid (okMP P = false) := by show _ = _; exact okMP_no (fun h => by (have := h.1.2; omega))
      go_enter Try.func67, Try.ntmps67
      go_wp2
      go_ret
      exact ⟨ret_bool E.out.symm, hbl⟩
    · have hg : okGen P.gen := by unfold okGen; omega
      by_cases hk2 : P.kind = 2
      · have bk2 : (P.kind == 2) = true := by simpa using hk2
        have hE := recsR_ok (l := P.recs) hg
        generalize recsR P.gen P.recs = R at *
        obtain ⟨Q, E2⟩ := R
        dsimp only at hE
        by_cases he : E2 = 0
        · have be : (E2 == 0) = true := by simpa using he
          obtain ⟨hr, hall⟩ := hE.1 he
          by_cases hp : P.part = 0
          · have bp0 : (P.part == 0) = true := by simpa using hp
            by_cases hs : P.seq = 0
            · have bs : (P.seq == 0) = true := by simpa using hs
              by_cases hn : nb = 0
              · have bn : ((nb : Int) == 0) = true := by rw [hn]; rfl
                have E : Hid (okMP P = ((nw : Int) == 0)) := by show _ = _; (have e2 : P.bad.length = nb := HB.out); (have e3 : P.wear.length = nw := HW.out); (by_cases hz : nw = 0); (rw [okMP_iff.2 ⟨hg, .inr ⟨hk2, hp, hs, by omega, by omega, hr, hall⟩⟩, hz]; rfl); (rw [okMP_no (fun h => by (have hq := h.2; rcases hq with hq | hq; (have := hq.1; omega); (have := hq.2.2.2.2.1; omega)))]; (have : ((nw : Int) == 0) = false := by rw [beq_eq_false_iff_ne]; omega); rw [this])
                clear hk2 he hp hs hn hg hE
                go_enter Try.func67, Try.ntmps67
                go_wp2_with (go_at_call 28; refine hrec.mono ?_; rintro e w1 ⟨V1, rfl, ho1, hb1⟩; have bp1 := bp.kept hb1; have hal := below_alloc w1 (.cells #[.int .i64 Q.kind, .int .i64 Q.gen, .int .i64 Q.part, .int .i64 Q.seq, .slice V1.pb V1.nb V1.cb, .slice V1.pw V1.nw V1.cw, .slice V1.pr V1.nr V1.cr] 42); have bp2 := bp1.kept hal; have hB2 := bt (bt hbl hb1) hal; obtain ⟨z0, z1, z2, z3, z4, z5, z6⟩ := bp2.cells7; dsimp only; clear hrec)
                go_ret
                exact ⟨ret_bool E.out.symm, hB2⟩
              · have bn : ((nb : Int) == 0) = false := by rw [beq_eq_false_iff_ne]; omega
                have E : Hid (okMP P = false) := by show _ = _; exact okMP_no (fun h => by (have hq := h.2; rcases hq with hq | hq; (have := hq.1; omega); (have := hq.2.2.2.1; rw [HB.out] at this; omega)))
                clear hk2 he hp hs hn hg hE
                go_enter Try.func67, Try.ntmps67
                go_wp2_with (go_at_call 28; refine hrec.mono ?_; rintro e w1 ⟨V1, rfl, ho1, hb1⟩; have bp1 := bp.kept hb1; have hal := below_alloc w1 (.cells #[.int .i64 Q.kind, .int .i64 Q.gen, .int .i64 Q.part, .int .i64 Q.seq, .slice V1.pb V1.nb V1.cb, .slice V1.pw V1.nw V1.cw, .slice V1.pr V1.nr V1.cr] 42); have bp2 := bp1.kept hal; have hB2 := bt (bt hbl hb1) hal; obtain ⟨z0, z1, z2, z3, z4, z5, z6⟩ := bp2.cells7; dsimp only; clear hrec)
                go_ret
                exact ⟨ret_bool E.out.symm, hB2⟩
            · have bs : (P.seq == 0) = false := by simpa using hs
              have E : Hid (okMP P = false) := by show _ = _; exact okMP_no (fun h => by (have hq := h.2; rcases hq with hq | hq; (have := hq.1; omega); (exact hs hq.2.2.1)))
              clear hk2 he hp hs hg hE
              go_enter Try.func67, Try.ntmps67
              go_wp2_with (go_at_call 28; refine hrec.mono ?_; rintro e w1 ⟨V1, rfl, ho1, hb1⟩; have bp1 := bp.kept hb1; have hal := below_alloc w1 (.cells #[.int .i64 Q.kind, .int .i64 Q.gen, .int .i64 Q.part, .int .i64 Q.seq, .slice V1.pb V1.nb V1.cb, .slice V1.pw V1.nw V1.cw, .slice V1.pr V1.nr V1.cr] 42); have bp2 := bp1.kept hal; have hB2 := bt (bt hbl hb1) hal; obtain ⟨z0, z1, z2, z3, z4, z5, z6⟩ := bp2.cells7; dsimp only; clear hrec)
              go_ret
              exact ⟨ret_bool E.out.symm, hB2⟩
          · have bp0 : (P.part == 0) = false := by simpa using hp
            have E : Hid (okMP P = false) := by show _ = _; exact okMP_no (fun h => by (have hq := h.2; rcases hq with hq | hq; (have := hq.1; omega); (exact hp hq.2.1)))
            clear hk2 he hp hg hE
            go_enter Try.func67, Try.ntmps67
            go_wp2_with (go_at_call 28; refine hrec.mono ?_; rintro e w1 ⟨V1, rfl, ho1, hb1⟩; have bp1 := bp.kept hb1; have hal := below_alloc w1 (.cells #[.int .i64 Q.kind, .int .i64 Q.gen, .int .i64 Q.part, .int .i64 Q.seq, .slice V1.pb V1.nb V1.cb, .slice V1.pw V1.nw V1.cw, .slice V1.pr V1.nr V1.cr] 42); have bp2 := bp1.kept hal; have hB2 := bt (bt hbl hb1) hal; obtain ⟨z0, z1, z2, z3, z4, z5, z6⟩ := bp2.cells7; dsimp only; clear hrec)
            go_ret
            exact ⟨ret_bool E.out.symm, hB2⟩
        · have be : (E2 == 0) = false := by simpa using he
          have E : Hid (okMP P = false) := by show _ = _; exact okMP_no (fun h => by (have hq := h.2; rcases hq with hq | hq; (have := hq.1; omega); (exact he (hE.2 hq.2.2.2.2.2))))
          clear hk2 he hg hE
          go_enter Try.func67, Try.ntmps67
          go_wp2_with (go_at_call 28; refine hrec.mono ?_; rintro e w1 ⟨V1, rfl, ho1, hb1⟩; have bp1 := bp.kept hb1; have hal := below_alloc w1 (.cells #[.int .i64 Q.kind, .int .i64 Q.gen, .int .i64 Q.part, .int .i64 Q.seq, .slice V1.pb V1.nb V1.cb, .slice V1.pw V1.nw V1.cw, .slice V1.pr V1.nr V1.cr] 42); have bp2 := bp1.kept hal; have hB2 := bt (bt hbl hb1) hal; obtain ⟨z0, z1, z2, z3, z4, z5, z6⟩ := bp2.cells7; dsimp only; clear hrec)
          go_ret
          exact ⟨ret_bool E.out.symm, hB2⟩
      · have bk2 : (P.kind == 2) = false := by simpa using hk2
        clear hrec
        by_cases hk1 : P.kind = 1
        · have bk1 : (P.kind != 1) = false := by simp [hk1]
          by_cases hp0 : P.part < 0
          · skip
            have E : Hid (okMP P = false) := by show _ = _; exact okMP_no (fun h => by (have hq := h.2; rcases hq with hq | hq; (have := hq.2.1; omega); (have := hq.1; omega)))
            clear hk1 hk2
            go_enter Try.func67, Try.ntmps67
            go_wp2
            go_ret
            exact ⟨ret_bool E.out.symm, hbl⟩
          · by_cases hp1 : P.part > 3
            · skip
              have E : Hid (okMP P = false) := by show _ = _; exact okMP_no (fun h => by (have hq := h.2; rcases hq with hq | hq; (have := hq.2.1; omega); (have := hq.1; omega)))
              clear hk1 hk2
              go_enter Try.func67, Try.ntmps67
              go_wp2
              go_ret
              exact ⟨ret_bool E.out.symm, hbl⟩
            · by_cases hs0 : P.seq < 0
              · skip
                have E : Hid (okMP P = false) := by show _ = _; exact okMP_no (fun h => by (have hq := h.2; rcases hq with hq | hq; (have := hq.2.2.1.1; omega); (have := hq.1; omega)))
                clear hk1 hk2
                go_enter Try.func67, Try.ntmps67
                go_wp2
                go_ret
                exact ⟨ret_bool E.out.symm, hbl⟩
              · by_cases hs1 : P.seq > 1152921504606846976
                · skip
                  have E : Hid (okMP P = false) := by show _ = _; exact okMP_no (fun h => by (have hq := h.2; rcases hq with hq | hq; (have := hq.2.2.1.2; omega); (have := hq.1; omega)))
                  clear hk1 hk2
                  go_enter Try.func67, Try.ntmps67
                  go_wp2
                  go_ret
                  exact ⟨ret_bool E.out.symm, hbl⟩
                · by_cases hr : (nr : Int) > 0
                  · skip
                    have E : Hid (okMP P = false) := by show _ = _; exact okMP_no (fun h => by (have hq := h.2; rcases hq with hq | hq; (have := hq.2.2.2.2.2.2; rw [HR.out] at this; omega); (have := hq.1; omega)))
                    clear hk1 hk2
                    go_enter Try.func67, Try.ntmps67
                    go_wp2
                    go_ret
                    exact ⟨ret_bool E.out.symm, hbl⟩
                  · obtain rfl : nr = 0 := by omega
                    clear hr
                    by_cases hn0 : (nb : Int) < 1
                    · skip
                      have E : Hid (okMP P = false) := by show _ = _; exact okMP_no (fun h => by (have hq := h.2; rcases hq with hq | hq; (have := hq.2.2.2.1; rw [HB.out] at this; omega); (have := hq.1; omega)))
                      clear hk1 hk2
                      go_enter Try.func67, Try.ntmps67
                      go_wp2
                      go_ret
                      exact ⟨ret_bool E.out.symm, hbl⟩
                    · by_cases hn1 : (nb : Int) > 64
                      · skip
                        have E : Hid (okMP P = false) := by show _ = _; exact okMP_no (fun h => by (have hq := h.2; rcases hq with hq | hq; (have := hq.2.2.2.1; rw [HB.out] at this; omega); (have := hq.1; omega)))
                        clear hk1 hk2
                        go_enter Try.func67, Try.ntmps67
                        go_wp2
                        go_ret
                        exact ⟨ret_bool E.out.symm, hbl⟩
                      · by_cases hm : nw = nb
                        · have bm : ((nw : Int) != (nb : Int)) = false := by rw [hm]; simp
                          have YES : Hid (P.wear.all okWear = true → okMP P = true) := fun hww => okMP_iff.2 ⟨hg, .inl ⟨hk1, by omega, by unfold okGen; omega, by rw [HB.out]; omega, by rw [HB.out, HW.out]; exact hm, hww, HR.out⟩⟩
                          have NOW : Hid (P.wear.all okWear = false → okMP P = false) := fun hww => okMP_no (fun h => by (have hq := h.2; rcases hq with hq | hq; (rw [hq.2.2.2.2.2.1] at hww; cases hww); (have := hq.1; omega)))
                          have hnw : nw ≤ 64 := by omega
                          have hnw1 : 1 ≤ nw := by omega
                          obtain ⟨bq, oq, hpw, hbq', hcq⟩ := hWb.at' (by show 0 < nw; omega)
                          dsimp only at hpw hcq
                          subst hpw
                          clear hk1 hk2 hm hg
                          go_enter Try.func67, Try.ntmps67
                          go_wp2
                          go_loop [5] (fun i => ∃ k : Nat, k ≤ nw ∧ i = .int .i64 k ∧ ∀ j, j < k → okWear (eI P.wear j) = true) (fun i => nw - (intOf i).toNat)
                          case atStart => exact ⟨0, Nat.zero_le _, rfl, fun j h => by omega⟩
                          case round =>
                            obtain ⟨k, hk, rfl, hall⟩ := hrel
                            have HA : Hid (∀ j, j < k → okWear (eI P.wear j) = true) := hall
                            clear hall
                            by_cases hlt : k < nw
                            · have hck := hcq k hlt
                              clear hcq
                              cases hok : okWear (eI P.wear k) with
                              | true =>
                                have ho := okWear_iff.1 hok
                                have HO : Hid (okWear (eI P.wear k) = true) := hok
                                clear hok
                                have g1 : ¬ eI P.wear k < 0 := by omega
                                have g2 : ¬ eI P.wear k > 16777215 := by omega
                                go_wp2
                                go_round
                                case rel =>
                                  refine ⟨k + 1, by omega, by go_num, fun j hj => ?_⟩
                                  rcases Nat.lt_succ_iff_lt_or_eq.1 hj with h | h
                                  · exact HA.out j h
                                  · rw [h]; exact HO.out
                                case measure => simp [intOf]; omega
                              | false =>
                                have E : Hid (okMP P = false) := NOW.out (all_of_not (by rw [HW.out]; exact hlt) hok)
                                have hnn := okWear_no hok
                                clear hok
                                rcases hnn with g1 | g2
                                · go_wp2
                                  go_ret
                                  exact ⟨ret_bool E.out.symm, hbl⟩
                                · have g1 : ¬ eI P.wear k < 0 := by omega
                                  go_wp2
                                  go_ret
                                  exact ⟨ret_bool E.out.symm, hbl⟩
                            · have E : Hid (okMP P = true) := YES.out (eI_all.2 fun j hj => HA.out j (by have := HW.out; omega))
                              clear hcq
                              go_wp2
                              go_ret
                              exact ⟨ret_bool E.out.symm, hbl⟩
                        · have bm : ((nw : Int) != (nb : Int)) = true := by rw [bne_iff_ne]; omega
                          have E : Hid (okMP P = false) := by show _ = _; exact okMP_no (fun h => by (have hq := h.2; rcases hq with hq | hq; (have := hq.2.2.2.2.1; rw [HB.out, HW.out] at this; exact hm this); (have := hq.1; omega)))
                          clear hk1 hk2 hm
                          go_enter Try.func67, Try.ntmps67
                          go_wp2
                          go_ret
                          exact ⟨ret_bool E.out.symm, hbl⟩
        · have bk1 : (P.kind != 1) = true := by simp [hk1]
          have E : Hid (okMP P = false) := by show _ = _; exact okMP_no (fun h => by (have hq := h.2; rcases hq with hq | hq; (exact hk1 hq.1); (exact hk2 hq.1)))
          clear hk1 hk2
          go_enter Try.func67, Try.ntmps67
          go_wp2
          go_ret
          exact ⟨ret_bool E.out.symm, hbl⟩
end Go.Proofs.Ytpikaagdiafieaa
