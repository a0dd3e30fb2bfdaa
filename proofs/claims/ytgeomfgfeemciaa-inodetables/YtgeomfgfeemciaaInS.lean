/-
  What the references' Same answer.
-/
import Derived.Test.YtgeomfgfeemciaaInB
namespace Go.Proofs.Ytgeomfgfeemciaa
open Go.RowKit
set_option linter.unusedSimpArgs false in
set_option linter.unusedVariables false in
set_option maxRecDepth 100000 in
set_option maxHeartbeats 4000000 in
theorem r13same_any (p q : Option Addr) (n c m d : Nat) (l l' : List Ext) (w : World) (hx : InE w p n c l) (hy : InE w q m d l') : Calls Try.prog 36 #[.slice p n c, .slice q m d] w fun e w' => e = .returned (.bool (eqEB l l')) ∧ Below w.heap.size w w' := by
  have hroom := hx.room
  have HL : Hid (l.length = n) := hx.len
  have HM : Hid (l'.length = m) := hy.len
  by_cases hnm : n = m
  · subst hnm
    go_enter Try.func36, Try.ntmps36
    go_wp2
    go_loopw [5] (fun i wr => ∃ k : Nat, k ≤ n ∧ i = .int .i64 k ∧ (∀ j, j < k → extB (eE l j) (eE l' j) = true) ∧ Below w.heap.size w wr) (fun i _ => n - (intOf i).toNat)
    case atStart => exact ⟨0, Nat.zero_le _, rfl, fun j hj => absurd hj (Nat.not_lt_zero _), Below.refl _ _⟩
    case round =>
      obtain ⟨k, hk, rfl, hok, hbel⟩ := hrel
      have HOK : Hid (∀ j, j < k → extB (eE l j) (eE l' j) = true) := hok
      by_cases hlt : k < n
      · have hki : (k : Int) < (n : Int) := by omega
        obtain ⟨b, o, hpe, hbl, hc⟩ := (hx.below hbel).at' (by omega)
        subst hpe
        obtain ⟨b2, o2, hpe, hbl2, hc2⟩ := (hy.below hbel).at' (by omega)
        subst hpe
        obtain ⟨c0, c1, c2⟩ := hc k hlt
        obtain ⟨d0, d1, d2⟩ := hc2 k hlt
        have HF : Hid (extB (eE l k) (eE l' k) = false → eqEB l l' = false) := fun h => eqEB_no h
        have HT : Hid (extB (eE l k) (eE l' k) = true → ∀ j, j < k + 1 → extB (eE l j) (eE l' j) = true) := fun h j hj => by
          rcases Nat.lt_succ_iff_lt_or_eq.1 hj with h' | h'
          · exact HOK.out j h'
          · rw [h']; exact h
        clear hc hc2 hok
        generalize eE l k = D at *
        generalize eE l' k = E at *
        obtain ⟨a1, a2, a3⟩ := D
        obtain ⟨b1, b2, b3⟩ := E
        dsimp only at c0 c1 c2 d0 d1 d2
        by_cases z1 : a1 = b1
        · subst z1
          by_cases z2 : a2 = b2
          · subst z2
            by_cases z3 : a3 = b3
            · subst z3
              have HT2 := HT.out (extB_iff.2 rfl)
              go_upto_region 6 with fail
              go_quiet (fail)
              go_wp2
              go_roundw
              case rel => exact ⟨k + 1, by omega, by go_num, HT2, below_drewN hbel _⟩
              case measure => simp [intOf]; omega
            · have HF2 : Hid (eqEB l l' = false) := HF.out (by simp [extB]; exact z3)
              go_upto_region 6 with fail
              go_quiet (fail)
              go_wp2
              go_ret
              exact ⟨ret_bool HF2.out.symm, below_drewN hbel _⟩
          · have HF2 : Hid (eqEB l l' = false) := HF.out (by simp [extB]; exact fun h => absurd h z2)
            go_upto_region 6 with fail
            go_quiet (fail)
            go_wp2
            go_ret
            exact ⟨ret_bool HF2.out.symm, below_drewN hbel _⟩
        · have HF2 : Hid (eqEB l l' = false) := HF.out (by simp [extB]; exact fun h => absurd h z1)
          go_upto_region 6 with fail
          go_quiet (fail)
          go_wp2
          go_ret
          exact ⟨ret_bool HF2.out.symm, below_drewN hbel _⟩
      · have hkn : ¬ (k : Int) < (n : Int) := by omega
        have HF2 : Hid (eqEB l l' = true) := eqEB_iff.2 (eE_ext (by rw [HL.out, HM.out]) fun j hj => extB_iff.1 (HOK.out j (by rw [HL.out] at hj; omega)))
        go_wp2
        go_ret
        exact ⟨ret_bool HF2.out.symm, hbel⟩
  · have hne : ((n : Int) != (m : Int)) = true := by rw [bne_iff_ne]; omega
    have HF2 : Hid (eqEB l l' = false) := by
      show _ = _
      unfold eqEB
      rw [HL.out, HM.out, show (n == m) = false from by rw [beq_eq_false_iff_ne]; exact hnm]; rfl
    go_enter Try.func36, Try.ntmps36
    go_wp2
    go_ret
    exact ⟨ret_bool HF2.out.symm, Below.refl _ _⟩
set_option linter.unusedSimpArgs false in
set_option linter.unusedVariables false in
set_option maxRecDepth 100000 in
set_option maxHeartbeats 4000000 in
theorem rsame_any (x y : Ino) (p q : Option Addr) (n c m d : Nat) (w : World) (hx : InE w p n c x.rt) (hy : InE w q m d y.rt) : Calls Try.prog 13 #[x.val p n c, y.val q m d] w fun e w' => e = .returned (.bool (sameB x y)) ∧ Below w.heap.size w w' := by
  obtain ⟨kd, lk, sz, nx, ge, dp, rt⟩ := x
  obtain ⟨kd2, lk2, sz2, nx2, ge2, dp2, rt2⟩ := y
  dsimp only at hx hy
  by_cases h0 : kd = kd2
  · subst h0
    by_cases h1 : lk = lk2
    · subst h1
      by_cases h2 : sz = sz2
      · subst h2
        by_cases h3 : nx = nx2
        · subst h3
          by_cases h4 : ge = ge2
          · subst h4
            by_cases h5 : dp = dp2
            · subst h5
              have HE : Hid (sameB ⟨kd, lk, sz, nx, ge, dp, rt⟩ ⟨kd, lk, sz, nx, ge, dp, rt2⟩ = eqEB rt rt2) := by show _ = _; unfold sameB; dsimp only; simp
              have hx1 := (hx.below (below_alloc w (.cells #[.int .i64 kd, .int .i64 lk, .int .i64 sz, .int .i64 nx, .int .i64 ge, .int .i64 dp, .slice p n c] 24))).below (below_alloc _ (.cells #[.int .i64 kd, .int .i64 lk, .int .i64 sz, .int .i64 nx, .int .i64 ge, .int .i64 dp, .slice q m d] 24))
              have hy1 := (hy.below (below_alloc w (.cells #[.int .i64 kd, .int .i64 lk, .int .i64 sz, .int .i64 nx, .int .i64 ge, .int .i64 dp, .slice p n c] 24))).below (below_alloc _ (.cells #[.int .i64 kd, .int .i64 lk, .int .i64 sz, .int .i64 nx, .int .i64 ge, .int .i64 dp, .slice q m d] 24))
              go_enter Try.func13, Try.ntmps13
              go_wp2_with fail
              refine (r13same_any p q n c m d rt rt2 _ hx1 hy1).mono ?_
              rintro e w3 ⟨rfl, hb3⟩
              cases he : eqEB rt rt2 <;> go_wp2 <;> go_ret <;> exact ⟨ret_bool (HE.out.trans he).symm, bt (bt (below_alloc _ _) (below_alloc _ _)) hb3⟩
            · have hne : (dp == dp2) = false := by rw [beq_eq_false_iff_ne]; exact h5
              have HE : Hid (sameB ⟨kd, lk, sz, nx, ge, dp, rt⟩ ⟨kd, lk, sz, nx, ge, dp2, rt2⟩ = false) := by show _ = _; unfold sameB; dsimp only; rw [hne]; simp
              go_enter Try.func13, Try.ntmps13
              go_wp2
              go_ret
              exact ⟨ret_bool HE.out.symm, bt (below_alloc _ _) (below_alloc _ _)⟩
          · have hne : (ge == ge2) = false := by rw [beq_eq_false_iff_ne]; exact h4
            have HE : Hid (sameB ⟨kd, lk, sz, nx, ge, dp, rt⟩ ⟨kd, lk, sz, nx, ge2, dp2, rt2⟩ = false) := by show _ = _; unfold sameB; dsimp only; rw [hne]; simp
            go_enter Try.func13, Try.ntmps13
            go_wp2
            go_ret
            exact ⟨ret_bool HE.out.symm, bt (below_alloc _ _) (below_alloc _ _)⟩
        · have hne : (nx == nx2) = false := by rw [beq_eq_false_iff_ne]; exact h3
          have HE : Hid (sameB ⟨kd, lk, sz, nx, ge, dp, rt⟩ ⟨kd, lk, sz, nx2, ge2, dp2, rt2⟩ = false) := by show _ = _; unfold sameB; dsimp only; rw [hne]; simp
          go_enter Try.func13, Try.ntmps13
          go_wp2
          go_ret
          exact ⟨ret_bool HE.out.symm, bt (below_alloc _ _) (below_alloc _ _)⟩
      · have hne : (sz == sz2) = false := by rw [beq_eq_false_iff_ne]; exact h2
        have HE : Hid (sameB ⟨kd, lk, sz, nx, ge, dp, rt⟩ ⟨kd, lk, sz2, nx2, ge2, dp2, rt2⟩ = false) := by show _ = _; unfold sameB; dsimp only; rw [hne]; simp
        go_enter Try.func13, Try.ntmps13
        go_wp2
        go_ret
        exact ⟨ret_bool HE.out.symm, bt (below_alloc _ _) (below_alloc _ _)⟩
    · have hne : (lk == lk2) = false := by rw [beq_eq_false_iff_ne]; exact h1
      have HE : Hid (sameB ⟨kd, lk, sz, nx, ge, dp, rt⟩ ⟨kd, lk2, sz2, nx2, ge2, dp2, rt2⟩ = false) := by show _ = _; unfold sameB; dsimp only; rw [hne]; simp
      go_enter Try.func13, Try.ntmps13
      go_wp2
      go_ret
      exact ⟨ret_bool HE.out.symm, bt (below_alloc _ _) (below_alloc _ _)⟩
  · have hne : (kd == kd2) = false := by rw [beq_eq_false_iff_ne]; exact h0
    have HE : Hid (sameB ⟨kd, lk, sz, nx, ge, dp, rt⟩ ⟨kd2, lk2, sz2, nx2, ge2, dp2, rt2⟩ = false) := by show _ = _; unfold sameB; dsimp only; rw [hne]; simp
    go_enter Try.func13, Try.ntmps13
    go_wp2
    go_ret
    exact ⟨ret_bool HE.out.symm, bt (below_alloc _ _) (below_alloc _ _)⟩
end Go.Proofs.Ytgeomfgfeemciaa
