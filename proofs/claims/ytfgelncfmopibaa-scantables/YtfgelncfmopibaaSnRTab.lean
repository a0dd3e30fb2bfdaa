/-
  The reference's is and some.
-/
import Derived.Test.YtfgelncfmopibaaSnHome
namespace Go.Proofs.Ytfgelncfmopibaa
open Go.RowKit
theorem isPl_no {z : Pl} (h : ¬ (0 ≤ z.ph ∧ z.ph < 256 ∧ 0 ≤ z.pg ∧ z.pg < 32)) : isPl z = false := on_no h
theorem isPl_yes {z : Pl} (h : 0 ≤ z.ph ∧ z.ph < 256 ∧ 0 ≤ z.pg ∧ z.pg < 32) : isPl z = true := on_yes h
theorem is_any (ph pg : Int) (w : World) : Calls Try.prog 49 #[.agg #[.int .i64 ph, .int .i64 pg]] w fun e w' => e = .returned (.bool (isPl ⟨ph, pg⟩)) ∧ Below w.heap.size w w' := by
  by_cases h0 : ph < 0
  · rw [isPl_no (by show ¬ (0 ≤ ph ∧ ph < 256 ∧ 0 ≤ pg ∧ pg < 32); omega)]
    go_enter Try.func49, Try.ntmps49
    go_wp2
    go_ret
    exact ⟨rfl, below_alloc _ _⟩
  by_cases h1 : 256 ≤ ph
  · rw [isPl_no (by show ¬ (0 ≤ ph ∧ ph < 256 ∧ 0 ≤ pg ∧ pg < 32); omega)]
    go_enter Try.func49, Try.ntmps49
    go_wp2
    go_ret
    exact ⟨rfl, below_alloc _ _⟩
  by_cases h2 : pg < 0
  · rw [isPl_no (by show ¬ (0 ≤ ph ∧ ph < 256 ∧ 0 ≤ pg ∧ pg < 32); omega)]
    go_enter Try.func49, Try.ntmps49
    go_wp2
    go_ret
    exact ⟨rfl, below_alloc _ _⟩
  by_cases h4 : pg < 32
  · rw [isPl_yes (by show 0 ≤ ph ∧ ph < 256 ∧ 0 ≤ pg ∧ pg < 32; omega)]
    have hd : decide (pg < 32) = true := by simpa using h4
    go_enter Try.func49, Try.ntmps49
    go_wp2
    go_ret
    exact ⟨rfl, below_alloc _ _⟩
  · rw [isPl_no (by show ¬ (0 ≤ ph ∧ ph < 256 ∧ 0 ≤ pg ∧ pg < 32); omega)]
    have hd : decide (pg < 32) = false := by simpa using h4
    go_enter Try.func49, Try.ntmps49
    go_wp2
    go_ret
    exact ⟨rfl, below_alloc _ _⟩
/-- Whether one of the first k places from place a on is one. -/
def someTo (zs : List Pl) (a : Nat) : Nat → Bool
  | 0 => false
  | k + 1 => someTo zs a k || isPl (eZ zs (a + k))
theorem someTo_true {zs : List Pl} {a k : Nat} (h : someTo zs a k = true) {m : Nat} (hm : k ≤ m) : someTo zs a m = true := by
  induction m with
  | zero => obtain rfl : k = 0 := by omega
            exact h
  | succ m ih =>
    by_cases e : k = m + 1
    · subst e; exact h
    · unfold someTo; rw [ih (by omega)]; rfl
set_option linter.unusedSimpArgs false in
set_option maxHeartbeats 4000000 in
theorem some_any (P B a : Nat) (p : Option Addr) (n c : Nat) (zs : List Pl) (w : World) (hz : InZ w p n c zs) (hn : n ≤ 1000000) (HA : Hid (a = B * P)) (hP : 1 ≤ P) (hfit : a + P ≤ n) :
    Calls Try.prog 53 #[.int .i64 (P : Int), .slice p n c, .int .i64 (B : Int)] w fun e w' => e = .returned (.bool (someTo zs a P)) ∧ Below w.heap.size w w' := by
  have hroom := hz.room
  have hmul : (B : Int) * (P : Int) = (a : Int) := by rw [HA.out]; exact (Int.natCast_mul B P).symm
  have hBa : B ≤ a := by rw [HA.out]; exact Nat.le_mul_of_pos_right B hP
  have hai : (a : Int) ≤ 1000000 := by omega
  have hPi : (P : Int) ≤ 1000000 := by omega
  go_enter Try.func53, Try.ntmps53
  go_wp2
  go_loopw [7] (fun i wr => ∃ k : Nat, k ≤ P ∧ i = .int .i64 k ∧ someTo zs a k = false ∧ Below w.heap.size w wr) (fun i _ => P - (intOf i).toNat)
  case atStart => exact ⟨0, Nat.zero_le _, rfl, rfl, Below.refl _ _⟩
  case round =>
    obtain ⟨k, hk, rfl, hto, hbk⟩ := hrel
    by_cases hlt : k < P
    · obtain ⟨j, hj⟩ : ∃ j : Nat, j = a + k := ⟨_, rfl⟩
      have hji : (a : Int) + (k : Int) = (j : Int) := by omega
      have hjn : (j : Int) < (n : Int) := by omega
      have hjb : (j : Int) ≤ 1000000 := by omega
      obtain ⟨b, o, rfl, hbl, hc⟩ := (hz.below hbk).at' (by omega)
      obtain ⟨e0, e1⟩ := hc j (by omega)
      have HU : Hid (someTo zs a (k + 1) = isPl (eZ zs j)) := by show (someTo zs a k || isPl (eZ zs (a + k))) = _; rw [hto, hj]; rfl
      generalize eZ zs j = z at *
      obtain ⟨zh, zg⟩ := z
      dsimp only at e0 e1 HU
      have hki : (k : Int) < (P : Int) := by omega
      clear hc hto hj
      cases hp : isPl ⟨zh, zg⟩ with
      | false =>
        go_wp2_with (go_at_call 49; refine (is_any _ _ _).mono ?_; rintro e w1 ⟨rfl, hb1⟩)
        go_roundw
        case rel => exact ⟨k + 1, by omega, by go_num, HU.out.trans hp, bt hbk hb1⟩
        case measure => simp [intOf]; omega
      | true =>
        have HR : Hid (someTo zs a P = true) := someTo_true (HU.out.trans hp) hlt
        go_wp2_with (go_at_call 49; refine (is_any _ _ _).mono ?_; rintro e w1 ⟨rfl, hb1⟩)
        go_ret
        exact ⟨by rw [HR.out] <;> rfl, bt hbk hb1⟩
    · obtain rfl : k = P := by omega
      have HR : Hid (someTo zs a k = false) := hto
      clear hto
      go_wp2
      go_ret
      exact ⟨by rw [HR.out] <;> rfl, hbk⟩
end Go.Proofs.Ytfgelncfmopibaa
