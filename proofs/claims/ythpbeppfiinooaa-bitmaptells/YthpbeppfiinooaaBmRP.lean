/-
  Runs of 0 bits, plain.
-/
import Derived.Test.YthpbeppfiinooaaBmH
namespace Go.Proofs.Ythpbeppfiinooaa
/-- A piece: where it begins, how long it is. -/
structure Pie where
  a : Nat
  l : Nat
  h : a + l ≤ 2048
def mkP (a l : Nat) : Pie := if h : a + l ≤ 2048 then ⟨a, l, h⟩ else ⟨0, 0, by decide⟩
theorem mkP_a {a l : Nat} (h : a + l ≤ 2048) : (mkP a l).a = a := by unfold mkP; rw [dif_pos h]
theorem mkP_l {a l : Nat} (h : a + l ≤ 2048) : (mkP a l).l = l := by unfold mkP; rw [dif_pos h]
/-- The runs that end ahead of the bit k, and how many 0 bits stand just ahead of it. -/
def runTo (f : Nat → Bool) : Nat → List Pie × Nat
  | 0 => ([], 0)
  | k + 1 => if f k = true then ((if 0 < (runTo f k).2 then (runTo f k).1 ++ [mkP (k - (runTo f k).2) (runTo f k).2] else (runTo f k).1), 0) else ((runTo f k).1, (runTo f k).2 + 1)
def runsL (f : Nat → Bool) (n : Nat) : List Pie := if 0 < (runTo f n).2 then (runTo f n).1 ++ [mkP (n - (runTo f n).2) (runTo f n).2] else (runTo f n).1
theorem runTo_le (f : Nat → Bool) (k : Nat) : (runTo f k).2 ≤ k := by
  induction k with
  | zero => exact Nat.le_refl _
  | succ k ih => unfold runTo; split <;> simp <;> omega
theorem runTo_len (f : Nat → Bool) (k : Nat) : (runTo f k).1.length ≤ k := by
  induction k with
  | zero => exact Nat.le_refl _
  | succ k ih =>
    unfold runTo
    split
    · dsimp only
      split
      · rw [List.length_append]; simp only [List.length_cons, List.length_nil]; omega
      · omega
    · dsimp only; omega
theorem runsL_len (f : Nat → Bool) (k : Nat) : (runsL f k).length ≤ k + 1 := by
  have := runTo_len f k
  unfold runsL
  split
  · rw [List.length_append]; simp only [List.length_cons, List.length_nil]; omega
  · omega
theorem runTo_set {f : Nat → Bool} {k : Nat} (h : f k = true) : runTo f (k + 1) = (runsL f k, 0) := by
  rw [runTo, if_pos h]; rfl
theorem runTo_clear {f : Nat → Bool} {k : Nat} (h : f k = false) : runTo f (k + 1) = ((runTo f k).1, (runTo f k).2 + 1) := by
  rw [runTo, if_neg (by simp [h])]
theorem runsL_set {f : Nat → Bool} {k : Nat} (h : f k = true) : runsL f (k + 1) = runsL f k := by
  unfold runsL
  rw [runTo_set h]
  rfl
theorem runsL_clear {f : Nat → Bool} {k : Nat} (h : f k = false) : runsL f (k + 1) = (runTo f k).1 ++ [mkP (k - (runTo f k).2) ((runTo f k).2 + 1)] := by
  unfold runsL
  rw [runTo_clear h]
  dsimp only
  rw [if_pos (by omega), show k + 1 - ((runTo f k).2 + 1) = k - (runTo f k).2 by omega]
/-- Pieces one behind the other, of 0 bits, each ending below e. -/
structure Runs (f : Nat → Bool) (e : Nat) (l : List Pie) : Prop where
  ends : ∀ x ∈ l, x.a + x.l < e
  pos : ∀ x ∈ l, 0 < x.l
  zero : ∀ x ∈ l, ∀ i, x.a ≤ i → i < x.a + x.l → f i = false
  sort : l.Pairwise fun x y => x.a + x.l < y.a
theorem Runs.mono {f : Nat → Bool} {e e' : Nat} {l : List Pie} (h : Runs f e l) (he : e ≤ e') : Runs f e' l := ⟨fun x hx => Nat.lt_of_lt_of_le (h.ends x hx) he, h.pos, h.zero, h.sort⟩
theorem Runs.snoc {f : Nat → Bool} {e : Nat} {l : List Pie} (h : Runs f e l) (x : Pie) (h1 : e ≤ x.a) (h2 : 0 < x.l) (h3 : ∀ i, x.a ≤ i → i < x.a + x.l → f i = false) : Runs f (x.a + x.l + 1) (l ++ [x]) := by
  refine ⟨fun y hy => ?_, fun y hy => ?_, fun y hy => ?_, ?_⟩
  · rcases List.mem_append.1 hy with hy | hy
    · have := h.ends y hy; omega
    · rw [List.mem_singleton.1 hy]; omega
  · rcases List.mem_append.1 hy with hy | hy
    · exact h.pos y hy
    · rw [List.mem_singleton.1 hy]; exact h2
  · rcases List.mem_append.1 hy with hy | hy
    · exact h.zero y hy
    · rw [List.mem_singleton.1 hy]; exact h3
  · refine List.pairwise_append.2 ⟨h.sort, List.pairwise_singleton _ _, fun y hy z hz => ?_⟩
    rw [List.mem_singleton.1 hz]
    have := h.ends y hy
    omega
/-- What holds of runTo: the pieces end ahead of the 0 bits that are counted. -/
theorem runTo_runs (f : Nat → Bool) (k : Nat) (hk : k ≤ 2048) : Runs f (k - (runTo f k).2) (runTo f k).1 ∧ (∀ i, k - (runTo f k).2 ≤ i → i < k → f i = false) := by
  induction k with
  | zero => exact ⟨⟨fun x hx => absurd hx (List.not_mem_nil), fun x hx => absurd hx (List.not_mem_nil), fun x hx => absurd hx (List.not_mem_nil), List.Pairwise.nil⟩, fun i _ h => absurd h (Nat.not_lt_zero _)⟩
  | succ k ih =>
    obtain ⟨h1, h2⟩ := ih (by omega)
    have hle := runTo_le f k
    cases hf : f k with
    | true =>
      rw [runTo_set hf]
      dsimp only
      refine ⟨?_, fun i h3 h4 => by omega⟩
      unfold runsL
      split
      · rename_i hp
        have hs : k - (runTo f k).2 + (runTo f k).2 ≤ 2048 := by omega
        have := h1.snoc (mkP (k - (runTo f k).2) (runTo f k).2) (by rw [mkP_a hs]; exact Nat.le_refl _) (by rw [mkP_l hs]; exact hp) (fun i h3 h4 => h2 i (by rw [mkP_a hs] at h3; exact h3) (by rw [mkP_a hs, mkP_l hs] at h4; omega))
        rw [mkP_a hs, mkP_l hs] at this
        exact this.mono (by omega)
      · exact h1.mono (by omega)
    | false =>
      rw [runTo_clear hf]
      dsimp only
      refine ⟨h1.mono (by omega), fun i h3 h4 => ?_⟩
      rcases Nat.lt_succ_iff_lt_or_eq.1 h4 with h5 | h5
      · exact h2 i (by omega) h5
      · rw [h5]; exact hf
theorem runsL_runs (f : Nat → Bool) (n : Nat) (hn : n ≤ 2048) : Runs f (n + 1) (runsL f n) := by
  obtain ⟨h1, h2⟩ := runTo_runs f n hn
  have hle := runTo_le f n
  unfold runsL
  split
  · rename_i hp
    have hs : n - (runTo f n).2 + (runTo f n).2 ≤ 2048 := by omega
    have := h1.snoc (mkP (n - (runTo f n).2) (runTo f n).2) (by rw [mkP_a hs]; exact Nat.le_refl _) (by rw [mkP_l hs]; exact hp) (fun i h3 h4 => h2 i (by rw [mkP_a hs] at h3; exact h3) (by rw [mkP_a hs, mkP_l hs] at h4; omega))
    rw [mkP_a hs, mkP_l hs] at this
    exact this.mono (by omega)
  · exact h1.mono (by omega)
theorem runTo_congr {f g : Nat → Bool} {n : Nat} (h : ∀ i, i < n → f i = g i) : ∀ k, k ≤ n → runTo f k = runTo g k := by
  intro k
  induction k with
  | zero => intro _; rfl
  | succ k ih => intro hk; simp only [runTo, ih (by omega), h k (by omega)]
theorem runsL_congr {f g : Nat → Bool} {n : Nat} (h : ∀ i, i < n → f i = g i) : runsL f n = runsL g n := by
  unfold runsL; rw [runTo_congr h n (Nat.le_refl _)]
theorem cntF_congr {f g : Nat → Bool} {n : Nat} (h : ∀ i, i < n → f i = g i) : ∀ k, k ≤ n → cntF f k = cntF g k := by
  intro k
  induction k with
  | zero => intro _; rfl
  | succ k ih => intro hk; simp only [cntF, ih (by omega), h k (by omega)]
/-- All lengths together. -/
def sumP (l : List Pie) : Nat := (l.map Pie.l).sum
theorem sumP_snoc (l : List Pie) (x : Pie) : sumP (l ++ [x]) = sumP l + x.l := by simp [sumP]
theorem runTo_sum (f : Nat → Bool) (k : Nat) (hk : k ≤ 2048) : sumP (runTo f k).1 + (runTo f k).2 = cntF f k := by
  induction k with
  | zero => rfl
  | succ k ih =>
    have ih := ih (by omega)
    have hle := runTo_le f k
    cases hf : f k with
    | true =>
      rw [runTo_set hf, cntF, if_pos hf]
      dsimp only
      unfold runsL
      split
      · rw [sumP_snoc, mkP_l (by omega)]; omega
      · omega
    | false =>
      rw [runTo_clear hf, cntF, if_neg (by simp [hf])]
      dsimp only
      omega
theorem runsL_sum (f : Nat → Bool) (n : Nat) (hn : n ≤ 2048) : sumP (runsL f n) = cntF f n := by
  have h := runTo_sum f n hn
  have hle := runTo_le f n
  unfold runsL
  split
  · rw [sumP_snoc, mkP_l (by omega)]; omega
  · omega
/-- A list's last piece, ahead of a step. -/
theorem runsL_last {f : Nat → Bool} {k : Nat} (hk : k < 2048) (h : f k = false) :
    (∃ l, (runTo f k).1 = l ∧ (runTo f k).2 = 0 ∧ runsL f k = l ∧ runsL f (k + 1) = l ++ [mkP k 1] ∧ ∀ x ∈ l, x.a + x.l < k) ∨
    (∃ l m, 0 < m ∧ m ≤ k ∧ runsL f k = l ++ [mkP (k - m) m] ∧ runsL f (k + 1) = l ++ [mkP (k - m) (m + 1)]) := by
  have hle := runTo_le f k
  have hr := runTo_runs f k (by omega)
  have e := runsL_clear h
  rcases Nat.eq_zero_or_pos (runTo f k).2 with h0 | h0
  · left
    refine ⟨_, rfl, h0, ?_, ?_, ?_⟩
    · unfold runsL; rw [if_neg (by omega)]
    · rw [e, h0]; rfl
    · have := hr.1.ends; rw [h0] at this; simpa using this
  · right
    exact ⟨(runTo f k).1, (runTo f k).2, h0, hle, by unfold runsL; rw [if_pos h0], e⟩
end Go.Proofs.Ythpbeppfiinooaa
