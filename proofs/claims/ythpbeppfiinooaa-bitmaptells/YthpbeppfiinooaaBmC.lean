/-
  What Check answers, the program's and the reference's; bitsOf.
-/
import Derived.Test.YthpbeppfiinooaaBmT
namespace Go.Proofs.Ythpbeppfiinooaa
open Go.RowKit
/-- Whether f says so of the k numbers from lo on. -/
def allB (f : Nat → Bool) (lo : Nat) : Nat → Bool
  | 0 => true
  | k + 1 => allB f lo k && f (lo + k)
theorem allB_iff (f : Nat → Bool) (lo k : Nat) : allB f lo k = true ↔ ∀ j, j < k → f (lo + j) = true := by
  induction k with
  | zero => exact ⟨fun _ j hj => absurd hj (Nat.not_lt_zero _), fun _ => rfl⟩
  | succ k ih =>
    rw [allB, Bool.and_eq_true, ih]
    refine ⟨fun ⟨h, h2⟩ j hj => ?_, fun h => ⟨fun j hj => h j (by omega), h k (by omega)⟩⟩
    rcases Nat.lt_succ_iff_lt_or_eq.1 hj with h' | h'
    · exact h j h'
    · rw [h']; exact h2
/-- Whether a bitmap of n bits may be. -/
def chkB (xs : List Nat) (n : Int) : Bool := decide (0 ≤ n) && decide (n ≤ 2048) && decide (xs.length = 256) && allB (bitL xs) n.toNat (2048 - n.toNat)
def chkE (xs : List Nat) (n : Int) : Int := if chkB xs n = true then 0 else 120
theorem chkB_iff (xs : List Nat) (n : Int) : chkB xs n = true ↔ 0 ≤ n ∧ n ≤ 2048 ∧ xs.length = 256 ∧ ∀ i, n.toNat ≤ i → i < 2048 → bitL xs i = true := by
  unfold chkB
  simp only [Bool.and_eq_true, decide_eq_true_eq, allB_iff]
  refine ⟨fun ⟨⟨⟨h1, h2⟩, h3⟩, h4⟩ => ⟨h1, h2, h3, fun i h5 h6 => ?_⟩, fun ⟨h1, h2, h3, h4⟩ => ⟨⟨⟨h1, h2⟩, h3⟩, fun j hj => h4 _ (by omega) (by omega)⟩⟩
  have := h4 (i - n.toNat) (by omega)
  rwa [show n.toNat + (i - n.toNat) = i by omega] at this
theorem chkE_ok {xs : List Nat} {n : Int} (h : chkB xs n = true) : chkE xs n = 0 := if_pos h
theorem chkE_no {xs : List Nat} {n : Int} (h : chkB xs n = false) : chkE xs n = 120 := if_neg (by simp [h])
theorem chkE_no' {xs : List Nat} {n : Int} (h : ¬ (0 ≤ n ∧ n ≤ 2048 ∧ xs.length = 256 ∧ ∀ i, n.toNat ≤ i → i < 2048 → bitL xs i = true)) : chkE xs n = 120 := if_neg fun e => h ((chkB_iff _ _).1 e)
theorem drew_add (w : World) (i j : Nat) : ∃ k, (w.drewN i).drewN j = w.drewN k := ⟨i + j, by simp [World.drewN, Nat.add_assoc]⟩
theorem In.drewN {w : World} {p : Option Addr} {n c : Nat} {xs : List Nat} (h : In w p n c xs) (j : Nat) : In (w.drewN j) p n c xs := h.below (below_drewN (Below.refl _ _) _)
theorem check_any (p : Option Addr) (m c : Nat) (xs : List Nat) (n : Int) (w : World) (h : In w p m c xs) :
    Calls Try.prog 12 #[.slice p m c, .int .i64 n] w fun e w' => e = .returned (.int .i64 (chkE xs n)) ∧ ∃ j, w' = w.drewN j := by
  have HL : Hid (xs.length = m) := h.len
  have hmh := fun w => mayHave_any n w
  by_cases h1 : 0 ≤ n ∧ n ≤ 2048
  · obtain ⟨k0, rfl⟩ : ∃ k : Nat, n = (k : Int) := ⟨n.toNat, by omega⟩
    have hk0 : k0 ≤ 2048 := by omega
    rw [show (decide (0 ≤ (k0 : Int)) && decide ((k0 : Int) ≤ 2048)) = true by simp; omega] at hmh
    by_cases h2 : m = 256
    · subst h2
      obtain ⟨N, hN⟩ : ∃ N, N = 2048 - k0 := ⟨_, rfl⟩
      have hN1 : IntKind.i64.wrap (2048 - (k0 : Int)) = (N : Int) := by rw [IntKind.wrap_i64]; omega
      have hN2 : N ≤ 2048 := by omega
      have HN : Hid (N = 2048 - k0) := hN
      clear hN h1
      go_enter Try.func12, Try.ntmps12
      go_wp2_with (go_at_call 31; refine (hmh _).mono ?_; rintro e w1 ⟨rfl, hw'⟩; have hw2 := hw'.symm; subst hw2; clear hw')
      clear hmh
      go_loopw [16] (fun i wr => ∃ k : Nat, k ≤ N ∧ i = .int .i64 k ∧ (∃ j, wr = w.drewN j) ∧ Hid (∀ i, i < k → bitL xs (k0 + i) = true)) (fun i _ => N - (intOf i).toNat)
      case atStart => exact ⟨0, Nat.zero_le _, rfl, ⟨0, rfl⟩, fun i hi => absurd hi (Nat.not_lt_zero _)⟩
      case round =>
        obtain ⟨k, hk, rfl, ⟨j, rfl⟩, HA⟩ := hrel
        by_cases hlt : k < N
        · have hs := isSet_any p 256 c xs (k0 + k) (w.drewN j) (h.drewN j) (by have := HN.out; omega)
          cases hb : bitL xs (k0 + k) with
          | true =>
            rw [hb] at hs
            have HB : Hid (bitL xs (k0 + k) = true) := hb
            clear hb
            go_wp2_with (go_at_call 33; refine hs.mono ?_; rintro e w2 ⟨rfl, j2, rfl⟩)
            go_roundw
            case rel =>
              refine ⟨k + 1, by omega, by go_num, ⟨_, rfl⟩, fun i hi => ?_⟩
              rcases Nat.lt_succ_iff_lt_or_eq.1 hi with h' | h'
              · exact HA.out i h'
              · rw [h']; exact HB.out
            case measure => simp [intOf]; omega
          | false =>
            rw [hb] at hs
            have HB : Hid (bitL xs (k0 + k) = false) := hb
            clear hb
            go_wp2_with (go_at_call 33; refine hs.mono ?_; rintro e w2 ⟨rfl, j2, rfl⟩)
            go_ret
            refine ⟨ret_int (chkE_no' fun hh => ?_).symm, _, rfl⟩
            have h5 := hh.2.2.2 (k0 + k) (by omega) (by have := HN.out; omega)
            rw [HB.out] at h5; cases h5
        · go_wp2
          go_ret
          refine ⟨ret_int (chkE_ok ((chkB_iff _ _).2 ⟨by omega, by omega, HL.out, fun i h5 h6 => ?_⟩)).symm, _, rfl⟩
          have := HA.out (i - k0) (by have := HN.out; omega)
          rwa [show k0 + (i - k0) = i by omega] at this
    · have hm : ((m : Int) != 256) = true := by simp; omega
      go_enter Try.func12, Try.ntmps12
      go_wp2_with (go_at_call 31; refine (hmh _).mono ?_; rintro e w1 ⟨rfl, hw'⟩; have hw2 := hw'.symm; subst hw2; clear hw')
      go_ret
      exact ⟨ret_int (chkE_no' fun hh => h2 (by rw [← HL.out]; exact hh.2.2.1)).symm, 0, rfl⟩
  · rw [show (decide (0 ≤ n) && decide (n ≤ 2048)) = false by simp; omega] at hmh
    go_enter Try.func12, Try.ntmps12
    go_wp2_with (go_at_call 31; refine (hmh _).mono ?_; rintro e w1 ⟨rfl, hw'⟩; have hw2 := hw'.symm; subst hw2; clear hw')
    go_ret
    exact ⟨ret_int (chkE_no' fun hh => h1 ⟨hh.1, hh.2.1⟩).symm, 0, rfl⟩
theorem rcheck_any (p : Option Addr) (m c : Nat) (xs : List Nat) (n : Int) (w : World) (h : In w p m c xs) :
    Calls Try.prog 13 #[.slice p m c, .int .i64 n] w fun e w' => e = .returned (.int .i64 (chkE xs n)) ∧ w' = w := by
  have HL : Hid (xs.length = m) := h.len
  by_cases h0 : n < 0
  · go_enter Try.func13, Try.ntmps13
    go_wp2
    go_ret
    exact ⟨ret_int (chkE_no' fun hh => by omega).symm, rfl⟩
  · have h0' : decide (n < 0) = false := by simpa using h0
    by_cases h1 : 2048 < n
    · have h1' : decide (n > 2048) = true := by simpa using h1
      go_enter Try.func13, Try.ntmps13
      go_wp2
      go_ret
      exact ⟨ret_int (chkE_no' fun hh => by omega).symm, rfl⟩
    · have h1' : decide (n > 2048) = false := by simpa using h1
      by_cases h2 : m = 256
      · subst h2
        obtain ⟨k0, rfl⟩ : ∃ k : Nat, n = (k : Int) := ⟨n.toNat, by omega⟩
        have hk0 : k0 ≤ 2048 := by omega
        go_enter Try.func13, Try.ntmps13
        go_wp2
        go_loop [5] (fun i => ∃ k : Nat, k0 ≤ k ∧ k ≤ 2048 ∧ i = .int .i64 k ∧ Hid (∀ i, k0 ≤ i → i < k → bitL xs i = true)) (fun i => 2048 - (intOf i).toNat)
        case atStart => exact ⟨k0, Nat.le_refl _, hk0, rfl, fun i h1 h2 => by omega⟩
        case round =>
          obtain ⟨k, hk1, hk, rfl, HA⟩ := hrel
          by_cases hlt : k < 2048
          · have hs := bit_any p 256 c xs k w h (by omega)
            have hlt1 : (k : Int) < 2048 := by omega
            have hge1 : 0 ≤ (k : Int) := by omega
            have HK1 : Hid (k0 ≤ k) := hk1
            have HK : Hid (k ≤ 2048) := hk
            have HLT : Hid (k < 2048) := hlt
            clear hk1 hk hlt hk0 h0 h0' h1 h1'
            cases hb : bitL xs k with
            | true =>
              rw [hb] at hs
              have HB : Hid (bitL xs k = true) := hb
              clear hb
              go_wp2_with (go_at_call 34; refine hs.mono ?_; rintro e w2 ⟨rfl, hw'⟩; have hw2 := hw'.symm; subst hw2; clear hw')
              go_round
              case rel =>
                refine ⟨k + 1, by have := HK1.out; omega, by have := HLT.out; omega, by go_num, fun i h1 hi => ?_⟩
                rcases Nat.lt_succ_iff_lt_or_eq.1 hi with h' | h'
                · exact HA.out i h1 h'
                · rw [h']; exact HB.out
              case measure => have := HLT.out; simp [intOf]; omega
            | false =>
              rw [hb] at hs
              have HB : Hid (bitL xs k = false) := hb
              clear hb
              go_wp2_with (go_at_call 34; refine hs.mono ?_; rintro e w2 ⟨rfl, hw'⟩; have hw2 := hw'.symm; subst hw2; clear hw')
              go_ret
              refine ⟨ret_int (chkE_no' fun hh => ?_).symm, rfl⟩
              have h5 := hh.2.2.2 k (by have := HK1.out; omega) HLT.out
              rw [HB.out] at h5; cases h5
          · have hlt1 : ¬ (k : Int) < 2048 := by omega
            have HK : Hid (k0 ≤ k ∧ k ≤ 2048 ∧ k0 ≤ 2048 ∧ ¬ k < 2048) := ⟨hk1, hk, hk0, hlt⟩
            clear hk1 hk hlt hk0 h0 h0' h1 h1'
            go_wp2
            go_ret
            obtain ⟨hk1, hk, hk0, hlt⟩ := HK.out
            exact ⟨ret_int (chkE_ok ((chkB_iff _ _).2 ⟨by omega, by omega, HL.out, fun i h5 h6 => HA.out i (by omega) (by omega)⟩)).symm, rfl⟩
      · have hm : ((m : Int) != 256) = true := by simp; omega
        go_enter Try.func13, Try.ntmps13
        go_wp2
        go_ret
        exact ⟨ret_int (chkE_no' fun hh => h2 (by rw [← HL.out]; exact hh.2.2.1)).symm, rfl⟩
/-- How many bits a bitmap is taken to have. -/
def nOf (xs : List Nat) (n : Int) : Nat := if chkB xs n = true then n.toNat else 0
theorem nOf_le (xs : List Nat) (n : Int) : nOf xs n ≤ 2048 := by
  unfold nOf
  split
  · rename_i h; have := (chkB_iff xs n).1 h; omega
  · omega
theorem bitsOf_any (p : Option Addr) (m c : Nat) (xs : List Nat) (n : Int) (w : World) (h : In w p m c xs) :
    Calls Try.prog 35 #[.slice p m c, .int .i64 n] w fun e w' => e = .returned (.int .i64 (nOf xs n : Nat)) ∧ ∃ j, w' = w.drewN j := by
  have hc := check_any p m c xs n w h
  cases hb : chkB xs n with
  | true =>
    have hn : n = ((nOf xs n : Nat) : Int) := by unfold nOf; rw [if_pos hb]; have := (chkB_iff xs n).1 hb; omega
    rw [chkE_ok hb] at hc
    generalize nOf xs n = N at *
    clear hb
    subst hn
    go_enter Try.func35, Try.ntmps35
    go_wp2_with (go_at_call 12; refine hc.mono ?_; rintro e w1 ⟨rfl, j, rfl⟩)
    go_ret
    exact ⟨rfl, j, rfl⟩
  | false =>
    have hn : nOf xs n = 0 := by unfold nOf; rw [if_neg (by simp [hb])]
    rw [chkE_no hb] at hc
    rw [hn]
    clear hb hn
    go_enter Try.func35, Try.ntmps35
    go_wp2_with (go_at_call 12; refine hc.mono ?_; rintro e w1 ⟨rfl, j, rfl⟩)
    go_ret
    exact ⟨rfl, j, rfl⟩
end Go.Proofs.Ythpbeppfiinooaa
