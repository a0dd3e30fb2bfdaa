/-
  What inode.within, numbersMayBe and slices.Equal of extents answer.
-/
import Derived.Test.YtgeomfgfeemciaaInP
import Derived.Test.YtgeomfgfeemciaaXtK
import Derived.Lib.SmallJoins
namespace Go.Proofs.Ytgeomfgfeemciaa
open Go.RowKit
set_option linter.unusedSimpArgs false in
set_option linter.unusedVariables false in
set_option maxRecDepth 100000 in
set_option maxHeartbeats 4000000 in
theorem within_any (a b c : Int) (w : World) : Calls Try.prog 52 #[.int .i64 a, .int .i64 b, .int .i64 c] w fun e w' => e = .returned (.bool (inB a b c)) ∧ w' = w := by
  by_cases h1 : b ≤ a
  · by_cases h2 : a ≤ c
    · have HE : inB a b c = true := inB_iff.2 ⟨h1, h2⟩
      rw [HE]
      go_enter Try.func52, Try.ntmps52
      go_wp2
      go_ret
      exact ⟨ret_bool (by simp), rfl⟩
    · have HE : inB a b c = false := by unfold inB; rw [decide_eq_false_iff_not]; exact fun h => h2 h.2
      rw [HE]
      go_enter Try.func52, Try.ntmps52
      go_wp2
      go_ret
      exact ⟨ret_bool (by simp), rfl⟩
  · have HE : inB a b c = false := by unfold inB; rw [decide_eq_false_iff_not]; exact fun h => h1 h.1
    rw [HE]
    go_enter Try.func52, Try.ntmps52
    go_wp2
    go_ret
    exact ⟨rfl, rfl⟩
set_option linter.unusedSimpArgs false in
set_option linter.unusedVariables false in
set_option maxRecDepth 100000 in
set_option maxHeartbeats 4000000 in
theorem withinL_any (a b c : Int) (w : World) : Calls Try.prog 42 #[.int .i64 a, .int .i64 b, .int .i64 c] w fun e w' => e = .returned (.bool (inB a b c)) ∧ w' = w := by
  by_cases h1 : b ≤ a
  · by_cases h2 : a ≤ c
    · have HE : inB a b c = true := inB_iff.2 ⟨h1, h2⟩
      rw [HE]
      go_enter Try.func42, Try.ntmps42
      go_wp2
      go_ret
      exact ⟨ret_bool (by simp), rfl⟩
    · have HE : inB a b c = false := by unfold inB; rw [decide_eq_false_iff_not]; exact fun h => h2 h.2
      rw [HE]
      go_enter Try.func42, Try.ntmps42
      go_wp2
      go_ret
      exact ⟨ret_bool (by simp), rfl⟩
  · have HE : inB a b c = false := by unfold inB; rw [decide_eq_false_iff_not]; exact fun h => h1 h.1
    rw [HE]
    go_enter Try.func42, Try.ntmps42
    go_wp2
    go_ret
    exact ⟨rfl, rfl⟩
set_option linter.unusedSimpArgs false in
set_option linter.unusedVariables false in
set_option maxRecDepth 100000 in
set_option maxHeartbeats 4000000 in
theorem numbers_any (x : Ino) (p : Option Addr) (n c : Nat) (w : World) : Calls Try.prog 37 #[x.val p n c] w fun e w' => e = .returned (.bool (numB x)) ∧ Below w.heap.size w w' := by
  obtain ⟨kd, lk, sz, nx, ge, dp, rt⟩ := x
  cases h1 : inB lk 0 1000 with
  | false =>
    have HE : numB ⟨kd, lk, sz, nx, ge, dp, rt⟩ = false := by unfold numB; dsimp only; rw [h1]; rfl
    rw [HE]
    clear HE
    go_enter Try.func37, Try.ntmps37
    go_wp2_with (first
      | (go_at_call 52; refine (within_any _ _ _ _).mono ?_; rintro e w' ⟨rfl, rfl⟩; first | rw [h1])
      | (go_at_call 42; refine (withinL_any _ _ _ _).mono ?_; rintro e w' ⟨rfl, rfl⟩; first | rw [h1]))
    go_ret
    exact ⟨rfl, below_alloc _ _⟩
  | true =>
    cases h2 : inB sz 0 16777216 with
    | false =>
      have HE : numB ⟨kd, lk, sz, nx, ge, dp, rt⟩ = false := by unfold numB; dsimp only; rw [h1, h2]; rfl
      rw [HE]
      clear HE
      go_enter Try.func37, Try.ntmps37
      go_wp2_with (first
        | (go_at_call 52; refine (within_any _ _ _ _).mono ?_; rintro e w' ⟨rfl, rfl⟩; first | rw [h1] | rw [h2])
        | (go_at_call 42; refine (withinL_any _ _ _ _).mono ?_; rintro e w' ⟨rfl, rfl⟩; first | rw [h1] | rw [h2]))
      go_ret
      exact ⟨rfl, below_alloc _ _⟩
    | true =>
      cases h3 : inB nx 0 65536 with
      | false =>
        have HE : numB ⟨kd, lk, sz, nx, ge, dp, rt⟩ = false := by unfold numB; dsimp only; rw [h1, h2, h3]; rfl
        rw [HE]
        clear HE
        go_enter Try.func37, Try.ntmps37
        go_wp2_with (first
          | (go_at_call 52; refine (within_any _ _ _ _).mono ?_; rintro e w' ⟨rfl, rfl⟩; first | rw [h1] | rw [h2] | rw [h3])
          | (go_at_call 42; refine (withinL_any _ _ _ _).mono ?_; rintro e w' ⟨rfl, rfl⟩; first | rw [h1] | rw [h2] | rw [h3]))
        go_ret
        exact ⟨rfl, below_alloc _ _⟩
      | true =>
        cases h4 : inB ge 0 4294967295 with
        | false =>
          have HE : numB ⟨kd, lk, sz, nx, ge, dp, rt⟩ = false := by unfold numB; dsimp only; rw [h1, h2, h3, h4]; rfl
          rw [HE]
          clear HE
          go_enter Try.func37, Try.ntmps37
          go_wp2_with (first
            | (go_at_call 52; refine (within_any _ _ _ _).mono ?_; rintro e w' ⟨rfl, rfl⟩; first | rw [h1] | rw [h2] | rw [h3] | rw [h4])
            | (go_at_call 42; refine (withinL_any _ _ _ _).mono ?_; rintro e w' ⟨rfl, rfl⟩; first | rw [h1] | rw [h2] | rw [h3] | rw [h4]))
          go_ret
          exact ⟨rfl, below_alloc _ _⟩
        | true =>
          cases h5 : inB dp 0 2 with
          | false =>
            have HE : numB ⟨kd, lk, sz, nx, ge, dp, rt⟩ = false := by unfold numB; dsimp only; rw [h1, h2, h3, h4, h5]; rfl
            rw [HE]
            clear HE
            go_enter Try.func37, Try.ntmps37
            go_wp2_with (first
              | (go_at_call 52; refine (within_any _ _ _ _).mono ?_; rintro e w' ⟨rfl, rfl⟩; first | rw [h1] | rw [h2] | rw [h3] | rw [h4] | rw [h5])
              | (go_at_call 42; refine (withinL_any _ _ _ _).mono ?_; rintro e w' ⟨rfl, rfl⟩; first | rw [h1] | rw [h2] | rw [h3] | rw [h4] | rw [h5]))
            go_ret
            exact ⟨rfl, below_alloc _ _⟩
          | true =>
            have HE : numB ⟨kd, lk, sz, nx, ge, dp, rt⟩ = true := by unfold numB; dsimp only; rw [h1, h2, h3, h4, h5]; rfl
            rw [HE]
            clear HE
            go_enter Try.func37, Try.ntmps37
            go_wp2_with (first
              | (go_at_call 52; refine (within_any _ _ _ _).mono ?_; rintro e w' ⟨rfl, rfl⟩; first | rw [h1] | rw [h2] | rw [h3] | rw [h4] | rw [h5])
              | (go_at_call 42; refine (withinL_any _ _ _ _).mono ?_; rintro e w' ⟨rfl, rfl⟩; first | rw [h1] | rw [h2] | rw [h3] | rw [h4] | rw [h5]))
            go_ret
            exact ⟨rfl, below_alloc _ _⟩
def extB (a b : Ext) : Bool := (a.lo == b.lo) && (a.ln == b.ln) && (a.ph == b.ph)
theorem extB_iff {a b : Ext} : extB a b = true ↔ a = b := by
  obtain ⟨a1, a2, a3⟩ := a
  obtain ⟨b1, b2, b3⟩ := b
  simp [extB, and_assoc]
def eqEB (l m : List Ext) : Bool := (l.length == m.length) && (List.range l.length).all fun k => extB (eE l k) (eE m k)
theorem eqEB_iff {l m : List Ext} : eqEB l m = true ↔ l = m := by
  unfold eqEB
  simp only [Bool.and_eq_true, beq_iff_eq, List.all_eq_true, List.mem_range, extB_iff]
  constructor
  · rintro ⟨h1, h2⟩; exact eE_ext h1 h2
  · rintro rfl; exact ⟨rfl, fun _ _ => rfl⟩
theorem eqEB_no {l m : List Ext} {k : Nat} (h : extB (eE l k) (eE m k) = false) : eqEB l m = false := by
  cases hh : eqEB l m with
  | false => rfl
  | true => rw [eqEB_iff.1 hh, extB_iff.2 rfl] at h; cases h
set_option linter.unusedSimpArgs false in
set_option linter.unusedVariables false in
set_option maxRecDepth 100000 in
set_option maxHeartbeats 4000000 in
theorem equalE_any (p q : Option Addr) (n c m d : Nat) (l l' : List Ext) (w : World) (hx : InE w p n c l) (hy : InE w q m d l') : Calls Try.prog 41 #[.slice p n c, .slice q m d] w fun e w' => e = .returned (.bool (eqEB l l')) ∧ Below w.heap.size w w' := by
  have hroom := hx.room
  have HL : Hid (l.length = n) := hx.len
  have HM : Hid (l'.length = m) := hy.len
  by_cases hnm : n = m
  · subst hnm
    go_enter Try.func41, Try.ntmps41
    go_wp2
    go_loopw [13] (fun i wr => ∃ k : Nat, k ≤ n ∧ i = .int .i64 k ∧ (∀ j, j < k → extB (eE l j) (eE l' j) = true) ∧ Below w.heap.size w wr) (fun i _ => n - (intOf i).toNat)
    case atStart => exact ⟨0, Nat.zero_le _, rfl, fun j hj => absurd hj (Nat.not_lt_zero _), Below.refl _ _⟩
    case round =>
      obtain ⟨k, hk, rfl, hok, hbel⟩ := hrel
      have HOK : Hid (∀ j, j < k → extB (eE l j) (eE l' j) = true) := hok
      by_cases hlt : k < n
      · have hki : (k : Int) < (n : Int) := by omega
        obtain ⟨b, o, hpe, hbl, hc⟩ := (hx.below hbel).at' (by omega)
        subst hpe
        obtain ⟨b2, o2, hpe, hbl2, hc2⟩ := (hy.below hbel).at' (by omega)
        subst hpe
        obtain ⟨c0, c1, c2⟩ := hc k hlt
        obtain ⟨d0, d1, d2⟩ := hc2 k hlt
        have HF : Hid (extB (eE l k) (eE l' k) = false → eqEB l l' = false) := fun h => eqEB_no h
        have HT : Hid (extB (eE l k) (eE l' k) = true → ∀ j, j < k + 1 → extB (eE l j) (eE l' j) = true) := fun h j hj => by
          rcases Nat.lt_succ_iff_lt_or_eq.1 hj with h' | h'
          · exact HOK.out j h'
          · rw [h']; exact h
        clear hc hc2 hok
        generalize eE l k = D at *
        generalize eE l' k = E at *
        obtain ⟨a1, a2, a3⟩ := D
        obtain ⟨b1, b2, b3⟩ := E
        dsimp only at c0 c1 c2 d0 d1 d2
        by_cases z1 : a1 = b1
        · subst z1
          by_cases z2 : a2 = b2
          · subst z2
            by_cases z3 : a3 = b3
            · subst z3
              have HT2 := HT.out (extB_iff.2 rfl)
              go_upto_region 6 with fail
              go_quiet (fail)
              go_wp2
              go_roundw
              case rel => exact ⟨k + 1, by omega, by go_num, HT2, below_drewN hbel _⟩
              case measure => simp [intOf]; omega
            · have HF2 : Hid (eqEB l l' = false) := HF.out (by simp [extB]; exact z3)
              go_upto_region 6 with fail
              go_quiet (fail)
              go_wp2
              go_ret
              exact ⟨ret_bool HF2.out.symm, below_drewN hbel _⟩
          · have HF2 : Hid (eqEB l l' = false) := HF.out (by simp [extB]; exact fun h => absurd h z2)
            go_upto_region 6 with fail
            go_quiet (fail)
            go_wp2
            go_ret
            exact ⟨ret_bool HF2.out.symm, below_drewN hbel _⟩
        · have HF2 : Hid (eqEB l l' = false) := HF.out (by simp [extB]; exact fun h => absurd h z1)
          go_upto_region 6 with fail
          go_quiet (fail)
          go_wp2
          go_ret
          exact ⟨ret_bool HF2.out.symm, below_drewN hbel _⟩
      · have hkn : ¬ (k : Int) < (n : Int) := by omega
        have HF2 : Hid (eqEB l l' = true) := eqEB_iff.2 (eE_ext (by rw [HL.out, HM.out]) fun j hj => extB_iff.1 (HOK.out j (by rw [HL.out] at hj; omega)))
        go_wp2
        go_ret
        exact ⟨ret_bool HF2.out.symm, hbel⟩
  · have hne : ((n : Int) != (m : Int)) = true := by rw [bne_iff_ne]; omega
    have HF2 : Hid (eqEB l l' = false) := by
      show _ = _
      unfold eqEB
      rw [HL.out, HM.out, show (n == m) = false from by rw [beq_eq_false_iff_ne]; exact hnm]; rfl
    go_enter Try.func41, Try.ntmps41
    go_wp2
    go_ret
    exact ⟨ret_bool HF2.out.symm, Below.refl _ _⟩
end Go.Proofs.Ytgeomfgfeemciaa
