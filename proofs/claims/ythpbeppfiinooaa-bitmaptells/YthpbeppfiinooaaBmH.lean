/-
  What Has answers, the program's and the reference's; the reference's may; Count.
-/
import Derived.Test.YthpbeppfiinooaaBmM
namespace Go.Proofs.Ythpbeppfiinooaa
open Go.RowKit
def hasB (xs : List Nat) (n i : Int) : Bool := decide (0 ≤ i) && decide (i < (nOf xs n : Int)) && bitL xs i.toNat
theorem nOf_len {xs : List Nat} {n : Int} (h : 0 < nOf xs n) : chkB xs n = true := by
  cases hb : chkB xs n with
  | true => rfl
  | false => unfold nOf at h; rw [if_neg (by simp [hb])] at h; omega
theorem has_any (p : Option Addr) (m c : Nat) (xs : List Nat) (n i : Int) (w : World) (h : In w p m c xs) :
    Calls Try.prog 14 #[.slice p m c, .int .i64 n, .int .i64 i] w fun e w' => e = .returned (.bool (hasB xs n i)) ∧ ∃ j, w' = w.drewN j := by
  have hb := bitsOf_any p m c xs n w h
  have hle := nOf_le xs n
  by_cases h0 : 0 ≤ i
  · obtain ⟨I, rfl⟩ : ∃ k : Nat, i = (k : Int) := ⟨i.toNat, by omega⟩
    by_cases h1 : (I : Int) < (nOf xs n : Int)
    · have hq := (chkB_iff xs n).1 (nOf_len (xs := xs) (n := n) (by omega))
      have hm : m = 256 := by rw [← h.len]; exact hq.2.2.1
      subst hm
      have HQ : Hid (hasB xs n (I : Int) = bitL xs I) := by show _ = _; unfold hasB; simp [h1]
      rw [HQ.out]
      have hs := fun j => isSet_any p 256 c xs I (w.drewN j) (h.drewN j) (by omega)
      clear hq
      generalize nOf xs n = N at *
      clear hle
      go_enter Try.func14, Try.ntmps14
      go_wp2_with (first | (go_at_call 35; refine hb.mono ?_; rintro e w1 ⟨rfl, j, rfl⟩) | (go_at_call 33; refine (hs _).mono ?_; rintro e w2 ⟨rfl, j2, rfl⟩))
      go_ret
      exact ⟨rfl, _, rfl⟩
    · rw [show hasB xs n (I : Int) = false by unfold hasB; simp [h1]]
      generalize nOf xs n = N at *
      clear hle
      go_enter Try.func14, Try.ntmps14
      go_wp2_with (go_at_call 35; refine hb.mono ?_; rintro e w1 ⟨rfl, j, rfl⟩)
      go_ret
      exact ⟨rfl, _, rfl⟩
  · rw [show hasB xs n i = false by unfold hasB; simp [h0]]
    go_enter Try.func14, Try.ntmps14
    go_wp2
    go_ret
    exact ⟨rfl, 0, rfl⟩
/-- What may answers: the bitmap, or one of no bits. -/
structure MayIn (w' : World) (xs : List Nat) (N : Nat) (p : Option Addr) (m c : Nat) (zs : List Nat) : Prop where
  inn : In w' p m c zs
  len : 0 < N → m = 256 ∧ zs = xs
  n : nOf zs (N : Int) = N
theorem nOf_zero (zs : List Nat) : nOf zs ((0 : Nat) : Int) = 0 := by
  unfold nOf
  split <;> rfl
theorem may_any (p : Option Addr) (m c : Nat) (xs : List Nat) (n : Int) (w : World) (h : In w p m c xs) :
    Calls Try.prog 36 #[.slice p m c, .int .i64 n] w fun e w' => ∃ p' m' c' zs, e = .returned (.tuple #[.slice p' m' c', .int .i64 (nOf xs n : Nat)]) ∧ MayIn w' xs (nOf xs n) p' m' c' zs ∧ Below w.heap.size w w' := by
  have hc := rcheck_any p m c xs n w h
  cases hb : chkB xs n with
  | true =>
    have hq := (chkB_iff xs n).1 hb
    have HM : Hid (m = 256) := by show _ = _; rw [← h.len]; exact hq.2.2.1
    have hn : n = ((nOf xs n : Nat) : Int) := by unfold nOf; rw [if_pos hb]; omega
    rw [chkE_ok hb] at hc
    have HN2 : Hid (nOf xs ((nOf xs n : Nat) : Int) = nOf xs n) := by show _ = _; rw [← hn]
    generalize nOf xs n = N at *
    clear hb hq
    subst hn
    go_enter Try.func36, Try.ntmps36
    go_wp2_with (go_at_call 13; refine hc.mono ?_; rintro e w1 ⟨rfl, hw'⟩; have hw2 := hw'.symm; subst hw2; clear hw')
    go_ret2
    exact ⟨p, m, c, xs, rfl, ⟨h, fun _ => ⟨HM.out, rfl⟩, HN2.out⟩, Below.refl _ _⟩
  | false =>
    have hn : nOf xs n = 0 := by unfold nOf; rw [if_neg (by simp [hb])]
    rw [chkE_no hb] at hc
    rw [hn]
    clear hb hn
    obtain ⟨i0, hi, hz0, hz1, hz2⟩ := info_parts info5
    go_enter Try.func36, Try.ntmps36
    go_wp2_with (first
      | (go_at_call 13; refine hc.mono ?_; rintro e w1 ⟨rfl, hw'⟩; have hw2 := hw'.symm; subst hw2; clear hw')
      | (at_make; refine wpList_make_full _ rfl _ _ 22 rfl w.heap.size 5 i0 (.int .u8 0) 1 Try.underlying22 hi hz0 hz1 .i64 .i64 _ _ 0 rfl rfl rfl rfl (by rw [hz2]; omega) (by decide) (Nat.le_refl _) ?_; intro w1 hown1 hgrow1))
    go_ret2
    refine ⟨_, 0, 0, [], rfl, ⟨?_, fun h0 => absurd h0 (Nat.lt_irrefl _), nOf_zero _⟩, below_grown0 hgrow1⟩
    exact ⟨rfl, Nat.le_refl _, by decide, Nat.zero_le _, fun _ h => by simp at h, fun h => absurd h (Nat.lt_irrefl _), fun h => by cases h⟩
theorem rhas_any (p : Option Addr) (m c : Nat) (xs : List Nat) (n i : Int) (w : World) (h : In w p m c xs) :
    Calls Try.prog 15 #[.slice p m c, .int .i64 n, .int .i64 i] w fun e w' => e = .returned (.bool (hasB xs n i)) ∧ Below w.heap.size w w' := by
  have hb := may_any p m c xs n w h
  have hle := nOf_le xs n
  by_cases h0 : 0 ≤ i
  · obtain ⟨I, rfl⟩ : ∃ k : Nat, i = (k : Int) := ⟨i.toNat, by omega⟩
    by_cases h1 : (I : Int) < (nOf xs n : Int)
    · have HQ : Hid (hasB xs n (I : Int) = bitL xs I) := by show _ = _; unfold hasB; simp [h1]
      rw [HQ.out]
      have HL : Hid (I < nOf xs n ∧ nOf xs n ≤ 2048) := ⟨by omega, hle⟩
      generalize nOf xs n = N at *
      clear hle
      go_enter Try.func15, Try.ntmps15
      go_wp2_with fail
      refine hb.mono ?_
      rintro e w1 ⟨p', m', c', zs, rfl, hM, hb1⟩
      obtain ⟨rfl, rfl⟩ := hM.len (by have := HL.out; omega)
      have hs := bit_any p' 256 c' zs I w1 hM.inn (by have := HL.out; omega)
      go_wp2_with (go_at_call 34; refine hs.mono ?_; rintro e w2 ⟨rfl, hw'⟩; have hw2 := hw'.symm; subst hw2; clear hw')
      go_ret
      exact ⟨rfl, hb1⟩
    · rw [show hasB xs n (I : Int) = false by unfold hasB; simp [h1]]
      generalize nOf xs n = N at *
      clear hle
      go_enter Try.func15, Try.ntmps15
      go_wp2_with (go_at_call 36; refine hb.mono ?_; rintro e w1 ⟨p', m', c', zs, rfl, hM, hb1⟩)
      go_ret
      exact ⟨rfl, hb1⟩
  · rw [show hasB xs n i = false by unfold hasB; simp [h0]]
    go_enter Try.func15, Try.ntmps15
    go_wp2_with (go_at_call 36; refine hb.mono ?_; rintro e w1 ⟨p', m', c', zs, rfl, hM, hb1⟩)
    go_ret
    exact ⟨rfl, hb1⟩
/-- How many of the first k bits are 0. -/
def cntF (f : Nat → Bool) : Nat → Nat
  | 0 => 0
  | k + 1 => cntF f k + (if f k = true then 0 else 1)
theorem cntF_le (f : Nat → Bool) (k : Nat) : cntF f k ≤ k := by
  induction k with
  | zero => exact Nat.le_refl _
  | succ k ih => unfold cntF; split <;> omega
theorem count_any (p : Option Addr) (m c : Nat) (xs : List Nat) (n : Int) (w : World) (h : In w p m c xs) :
    Calls Try.prog 26 #[.slice p m c, .int .i64 n] w fun e w' => e = .returned (.int .i64 (cntF (bitL xs) (nOf xs n) : Nat)) ∧ ∃ j, w' = w.drewN j := by
  have hb := bitsOf_any p m c xs n w h
  have hle := nOf_le xs n
  have HM : Hid (0 < nOf xs n → m = 256) := fun h0 => by
    have hq := (chkB_iff xs n).1 (nOf_len h0)
    rw [← h.len]; exact hq.2.2.1
  generalize nOf xs n = N at *
  have HN : Hid (N ≤ 2048) := hle
  have hN : (N : Int) ≤ 2048 := by omega
  clear hle
  go_enter Try.func26, Try.ntmps26
  go_wp2_with (go_at_call 35; refine hb.mono ?_; rintro e w1 ⟨rfl, j, rfl⟩)
  clear hb
  go_loopw [5, 10] (fun s i wr => ∃ k : Nat, k ≤ N ∧ i = .int .i64 k ∧ s = .int .i64 (cntF (bitL xs) k : Nat) ∧ (∃ j, wr = w.drewN j)) (fun _ i _ => N - (intOf i).toNat)
  case atStart => exact ⟨0, Nat.zero_le _, rfl, rfl, ⟨_, rfl⟩⟩
  case round =>
    obtain ⟨k, hk, rfl, rfl, ⟨j2, rfl⟩⟩ := hrel
    by_cases hlt : k < N
    · have hm := HM.out (by omega)
      subst hm
      have hs := isSet_any p 256 c xs k (w.drewN j2) (h.drewN j2) (by have := HN.out; omega)
      have hcl := cntF_le (bitL xs) k
      cases hb : bitL xs k with
      | true =>
        rw [hb] at hs
        have HC : Hid (cntF (bitL xs) (k + 1) = cntF (bitL xs) k) := by show _ = _; rw [cntF, if_pos hb]; rfl
        clear hb
        generalize cntF (bitL xs) k = C at *
        go_wp2_with (go_at_call 33; refine hs.mono ?_; rintro e w2 ⟨rfl, j3, rfl⟩)
        go_roundw
        case rel => exact ⟨k + 1, by omega, by go_num, by rw [HC.out], ⟨_, rfl⟩⟩
        case measure => simp [intOf]; omega
      | false =>
        rw [hb] at hs
        have HC : Hid (cntF (bitL xs) (k + 1) = cntF (bitL xs) k + 1) := by show _ = _; rw [cntF, if_neg (by simp [hb])]
        clear hb
        generalize cntF (bitL xs) k = C at *
        go_wp2_with (go_at_call 33; refine hs.mono ?_; rintro e w2 ⟨rfl, j3, rfl⟩)
        go_roundw
        case rel => exact ⟨k + 1, by omega, by go_num, by rw [HC.out]; exact val_int (by omega), ⟨_, rfl⟩⟩
        case measure => simp [intOf]; omega
    · obtain rfl : k = N := by omega
      go_wp2
      go_ret
      exact ⟨rfl, _, rfl⟩
end Go.Proofs.Ythpbeppfiinooaa
