/-
  How many blocks there are of each kind.
-/
import Derived.Test.YtbimcdaplnmjdaaLyKind
namespace Go.Proofs.Ytbimcdaplnmjdaa
open Go.RowKit
/-- How many of the first n blocks are of a kind. -/
def cntK (b j k : Int) : Nat → Int
  | 0 => 0
  | n + 1 => cntK b j k n + (if knd b j (n : Int) = k then 1 else 0)
/-- What of a group may be allocated. -/
def roomG (b j g : Int) : Int := 128 * g + gLen b g - gData b j g
/-- What of the first n groups may be allocated. -/
def capTo (b j : Int) : Nat → Int
  | 0 => 0
  | n + 1 => capTo b j n + roomG b j (n : Int)
def capN (b j : Int) : Int := if okS b j then capTo b j (gN b).toNat else 0
set_option maxHeartbeats 4000000 in
theorem cnt1 (b j : Int) (d : Int) (hd : dN b = d) (h1 : 1 ≤ d) (_ : 0 ≤ j) (_ : 8 + d + j ≤ 128) (n : Nat) : cntK b j 1 n = max (0) (min (n : Int) (1)) - (0) := by
  induction n with
  | zero => simp only [cntK]; omega
  | succ n ih =>
    unfold cntK
    rw [ih]
    clear ih
    unfold knd
    rw [hd]
    by_cases g : (n : Int) < 128
    · rw [if_pos g]
      repeat' split
      all_goals omega
    · rw [if_neg g]
      repeat' split
      all_goals omega
set_option maxHeartbeats 4000000 in
theorem cnt2 (b j : Int) (d : Int) (hd : dN b = d) (h1 : 1 ≤ d) (h2 : 0 ≤ j) (h3 : 8 + d + j ≤ 128) (n : Nat) : cntK b j 2 n = max (1) (min (n : Int) (1 + d)) - (1) := by
  induction n with
  | zero => simp only [cntK]; omega
  | succ n ih =>
    unfold cntK
    rw [ih]
    clear ih
    unfold knd
    rw [hd]
    by_cases g : (n : Int) < 128
    · rw [if_pos g]
      repeat' split
      all_goals omega
    · rw [if_neg g]
      repeat' split
      all_goals omega
set_option maxHeartbeats 4000000 in
theorem cnt3 (b j : Int) (d : Int) (hd : dN b = d) (h1 : 1 ≤ d) (h2 : 0 ≤ j) (h3 : 8 + d + j ≤ 128) (n : Nat) : cntK b j 3 n = max (1 + d) (min (n : Int) (2 + d)) - (1 + d) + (if (n : Int) ≤ 128 then 0 else ((n : Int) - 1) / 128) := by
  induction n with
  | zero => simp only [cntK]; split <;> omega
  | succ n ih =>
    unfold cntK
    rw [ih]
    clear ih
    unfold knd
    rw [hd]
    by_cases g : (n : Int) < 128
    · rw [if_pos g]
      repeat' split
      all_goals omega
    · rw [if_neg g]
      repeat' split
      all_goals omega
set_option maxHeartbeats 4000000 in
theorem cnt4 (b j : Int) (d : Int) (hd : dN b = d) (h1 : 1 ≤ d) (h2 : 0 ≤ j) (h3 : 8 + d + j ≤ 128) (n : Nat) : cntK b j 4 n = max (2 + d) (min (n : Int) (3 + d)) - (2 + d) + (if (n : Int) ≤ 128 then 0 else ((n : Int) - 2) / 128) := by
  induction n with
  | zero => simp only [cntK]; split <;> omega
  | succ n ih =>
    unfold cntK
    rw [ih]
    clear ih
    unfold knd
    rw [hd]
    by_cases g : (n : Int) < 128
    · rw [if_pos g]
      repeat' split
      all_goals omega
    · rw [if_neg g]
      repeat' split
      all_goals omega
set_option maxHeartbeats 4000000 in
theorem cnt5 (b j : Int) (d : Int) (hd : dN b = d) (h1 : 1 ≤ d) (h2 : 0 ≤ j) (h3 : 8 + d + j ≤ 128) (n : Nat) : cntK b j 5 n = max (3 + d) (min (n : Int) (7 + d)) - (3 + d) + (if (n : Int) ≤ 128 then 0 else 4 * ((n : Int) / 128 - 1) + (max 2 (min ((n : Int) % 128) 6) - 2)) := by
  induction n with
  | zero => simp only [cntK]; split <;> omega
  | succ n ih =>
    unfold cntK
    rw [ih]
    clear ih
    unfold knd
    rw [hd]
    by_cases g : (n : Int) < 128
    · rw [if_pos g]
      repeat' split
      all_goals omega
    · rw [if_neg g]
      repeat' split
      all_goals omega
set_option maxHeartbeats 4000000 in
theorem cnt6 (b j : Int) (d : Int) (hd : dN b = d) (h1 : 1 ≤ d) (h2 : 0 ≤ j) (h3 : 8 + d + j ≤ 128) (n : Nat) : cntK b j 6 n = max (7 + d) (min (n : Int) (7 + d + j)) - (7 + d) := by
  induction n with
  | zero => simp only [cntK]; omega
  | succ n ih =>
    unfold cntK
    rw [ih]
    clear ih
    unfold knd
    rw [hd]
    by_cases g : (n : Int) < 128
    · rw [if_pos g]
      repeat' split
      all_goals omega
    · rw [if_neg g]
      repeat' split
      all_goals omega
set_option maxHeartbeats 4000000 in
theorem cnt7 (b j : Int) (d : Int) (hd : dN b = d) (h1 : 1 ≤ d) (h2 : 0 ≤ j) (h3 : 8 + d + j ≤ 128) (n : Nat) : cntK b j 7 n = max (7 + d + j) (min (n : Int) (128)) - (7 + d + j) + (if (n : Int) ≤ 128 then 0 else 122 * ((n : Int) / 128 - 1) + (max 6 ((n : Int) % 128) - 6)) := by
  induction n with
  | zero => simp only [cntK]; split <;> omega
  | succ n ih =>
    unfold cntK
    rw [ih]
    clear ih
    unfold knd
    rw [hd]
    by_cases g : (n : Int) < 128
    · rw [if_pos g]
      repeat' split
      all_goals omega
    · rw [if_neg g]
      repeat' split
      all_goals omega
theorem okS_facts {b j : Int} (h : okS b j = true) : ∃ d, dN b = d ∧ 1 ≤ d ∧ d ≤ 4 ∧ 8 + d + j ≤ 128 ∧ 8 + d + j ≤ b ∧ 16 ≤ j ∧ j ≤ 64 ∧ 1 ≤ b ∧ b ≤ 8192 ∧ 16 ≤ (b - 1) % 128 + 1 := by
  obtain ⟨h1, h2, h3, h4, h5, h6⟩ := okS_iff.1 h
  have hd := dN_rng h1 h2
  unfold lastL at h5
  exact ⟨_, rfl, hd.1, hd.2, by omega, by omega, h3, h4, h1, h2, h5⟩
theorem capTo_cnt {b j : Int} (h : okS b j = true) (n : Nat) (hn : (n : Int) ≤ gN b) : capTo b j n = cntK b j 7 (min (128 * (n : Int)) b).toNat := by
  obtain ⟨d, hd, f1, f2, f3, f4, f5, f6, f7, f8, f9⟩ := okS_facts h
  rw [cnt7 b j d hd f1 (by omega) f3]
  unfold gN at hn
  induction n with
  | zero => simp only [capTo]; split <;> omega
  | succ n ih =>
    unfold capTo
    rw [ih (by omega)]
    clear ih
    unfold roomG gLen gData
    rw [hd]
    repeat' split
    all_goals omega
theorem cap_cnt {b j : Int} (h : okS b j = true) : capN b j = cntK b j 7 b.toNat := by
  obtain ⟨d, hd, f1, f2, f3, f4, f5, f6, f7, f8, f9⟩ := okS_facts h
  unfold capN
  rw [if_pos h, capTo_cnt h _ (by unfold gN; omega)]
  congr 2
  unfold gN
  omega
theorem cnt_all {b j : Int} (h : okS b j = true) : cntK b j 1 b.toNat = 1 ∧ cntK b j 2 b.toNat = dN b ∧ cntK b j 3 b.toNat = gN b ∧ cntK b j 4 b.toNat = gN b ∧ cntK b j 5 b.toNat = 4 * gN b ∧ cntK b j 6 b.toNat = j ∧ cntK b j 7 b.toNat = b - 1 - dN b - 6 * gN b - j ∧ 0 < cntK b j 7 b.toNat := by
  obtain ⟨d, hd, f1, f2, f3, f4, f5, f6, f7, f8, f9⟩ := okS_facts h
  have q : 0 ≤ j := by omega
  rw [cnt1 b j d hd f1 q f3, cnt2 b j d hd f1 q f3, cnt3 b j d hd f1 q f3, cnt4 b j d hd f1 q f3, cnt5 b j d hd f1 q f3, cnt6 b j d hd f1 q f3, cnt7 b j d hd f1 q f3, hd]
  unfold gN
  refine ⟨by omega, by omega, ?_, ?_, ?_, by omega, ?_, ?_⟩ <;> (split <;> omega)
end Go.Proofs.Ytbimcdaplnmjdaa
