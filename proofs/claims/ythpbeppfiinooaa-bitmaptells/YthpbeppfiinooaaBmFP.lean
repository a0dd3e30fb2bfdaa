/-
  The found run, plain: the program's way and the reference's are one; what is found is free.
-/
import Derived.Test.YthpbeppfiinooaaBmQ3
namespace Go.Proofs.Ythpbeppfiinooaa
theorem behR_snd {l : List Pie} {g : Nat} {wa : Int} : (behR l g wa).2 = (l.find? (pB g wa)).isSome := by
  unfold behR; cases l.find? (pB g wa) <;> rfl
theorem aheR_snd {l : List Pie} {g : Nat} {wa : Int} : (aheR l g wa).2 = ((l.takeWhile fun x => decide (x.a < g)).find? (fun x => decide (wa ≤ (x.l : Int)))).isSome := by
  unfold aheR; cases (l.takeWhile fun x => decide (x.a < g)).find? (fun x => decide (wa ≤ (x.l : Int))) <;> rfl
/-- Where nothing is found behind the goal, what is long enough begins ahead of it. -/
theorem find_tw {l : List Pie} {g : Nat} {wa : Int} (hs : l.Pairwise fun x y => x.a + x.l < y.a) (h : ∀ x ∈ l, pB g wa x = false) :
    (l.takeWhile fun x => decide (x.a < g)).find? (fun x => decide (wa ≤ (x.l : Int))) = l.find? (fun x => decide (wa ≤ (x.l : Int))) := by
  have hb : ∀ x ∈ l, g ≤ x.a → ¬ wa ≤ (x.l : Int) := fun x hx hg hw => by
    have := h x hx
    unfold pB at this
    rw [Nat.max_eq_left hg] at this
    simp at this
    omega
  induction l with
  | nil => rfl
  | cons x r ih =>
    by_cases hx : x.a < g
    · rw [List.takeWhile_cons_of_pos (by simpa using hx)]
      by_cases hw : wa ≤ (x.l : Int)
      · rw [List.find?_cons_of_pos (by simpa using hw), List.find?_cons_of_pos (by simpa using hw)]
      · rw [List.find?_cons_of_neg (by simpa using hw), List.find?_cons_of_neg (by simpa using hw)]
        exact ih (List.pairwise_cons.1 hs).2 (fun y hy => h y (List.mem_cons_of_mem _ hy)) (fun y hy => hb y (List.mem_cons_of_mem _ hy))
    · rw [List.takeWhile_cons_of_neg (by simpa using hx), List.find?_nil]
      symm
      refine List.find?_eq_none.2 fun y hy => ?_
      have : g ≤ y.a := by
        rcases List.mem_cons.1 hy with rfl | hy'
        · omega
        · have := (List.pairwise_cons.1 hs).1 y hy'; omega
      simpa using hb y hy this
theorem runR_eq {l : List Pie} {g : Nat} {wa : Int} (hs : l.Pairwise fun x y => x.a + x.l < y.a) : runR l g wa = rrunR l g wa := by
  unfold runR rrunR
  by_cases hw : wa < 1
  · rw [if_pos hw, if_pos hw]
  · rw [if_neg hw, if_neg hw]
    cases hf : l.find? (pB g wa) with
    | some x =>
      rw [if_pos (by rw [behR_snd, hf]; rfl)]
      unfold behR
      rw [hf]
    | none =>
      rw [if_neg (by rw [behR_snd, hf]; simp)]
      have h := find_tw (wa := wa) (g := g) hs (fun x hx => by have := List.find?_eq_none.1 hf x hx; simpa using this)
      rw [aheR_snd]
      unfold aheR
      rw [h]
      cases hq : l.find? (fun x => decide (wa ≤ (x.l : Int))) with
      | some x => rfl
      | none => rfl
/-- The longest length. -/
def longL (l : List Pie) : Nat := l.foldl (fun b x => max b x.l) 0
theorem longL_snoc (l : List Pie) (x : Pie) : longL (l ++ [x]) = max (longL l) x.l := by simp [longL]
theorem longL_ge (l : List Pie) : ∀ x ∈ l, x.l ≤ longL l := by
  have : ∀ (m : List Pie) (b : Nat), b ≤ m.foldl (fun b x => max b x.l) b ∧ ∀ x ∈ m, x.l ≤ m.foldl (fun b x => max b x.l) b := by
    intro m
    induction m with
    | nil => intro b; exact ⟨Nat.le_refl _, fun x hx => absurd hx List.not_mem_nil⟩
    | cons y r ih =>
      intro b
      have h := ih (max b y.l)
      refine ⟨Nat.le_trans (Nat.le_max_left _ _) h.1, fun x hx => ?_⟩
      rcases List.mem_cons.1 hx with rfl | hx
      · exact Nat.le_trans (Nat.le_max_right _ _) h.1
      · exact h.2 x hx
  exact (this l 0).2
theorem lonR_long (l : List Pie) : (lonR l).2 = longL l ∧ ((lonR l) = (0, 0) ∨ ∃ x ∈ l, lonR l = (x.a, x.l)) := by
  have : ∀ (m : List Pie) (b : Nat × Nat), (m.foldl lonF b).2 = m.foldl (fun b x => max b x.l) b.2 ∧ (m.foldl lonF b = b ∨ ∃ x ∈ m, m.foldl lonF b = (x.a, x.l)) := by
    intro m
    induction m with
    | nil => intro b; exact ⟨rfl, .inl rfl⟩
    | cons y r ih =>
      intro b
      have h := ih (lonF b y)
      have e : (lonF b y).2 = max b.2 y.l := by
        unfold lonF
        split
        · show y.l = _; omega
        · omega
      refine ⟨by rw [List.foldl_cons, h.1, e]; rfl, ?_⟩
      rw [List.foldl_cons]
      rcases h.2 with h2 | ⟨x, hx, h2⟩
      · rw [h2]
        unfold lonF
        split
        · exact .inr ⟨y, List.mem_cons_self, rfl⟩
        · exact .inl rfl
      · exact .inr ⟨x, List.mem_cons_of_mem _ hx, h2⟩
  exact this l (0, 0)
/-- What is found: so many 0 bits, no more than asked for, and as many, if a run has them. -/
theorem runR_finds {f : Nat → Bool} {e : Nat} {l : List Pie} {g : Nat} {wa : Int} (hr : Runs f e l) (hw : ¬ wa < 1) :
    ∃ A K : Nat, rrunR l g wa = ((A : Int), (K : Int)) ∧ (K : Int) = min (longL l : Int) wa ∧ (∀ i, A ≤ i → i < A + K → f i = false) ∧ (K = 0 ∧ A = 0 ∨ A + K < e) := by
  unfold rrunR
  rw [if_neg hw]
  obtain ⟨W, rfl⟩ : ∃ k : Nat, wa = (k : Int) := ⟨wa.toNat, by omega⟩
  cases hf : l.find? (pB g (W : Int)) with
  | some x =>
    have hx := List.mem_of_find?_eq_some hf
    have hp := List.find?_some hf
    unfold pB at hp
    simp only [decide_eq_true_eq] at hp
    have hl := longL_ge l x hx
    have hz := hr.zero x hx
    have he := hr.ends x hx
    refine ⟨max x.a g, W, rfl, by omega, fun i h1 h2 => hz i (by omega) (by omega), .inr (by omega)⟩
  | none =>
    cases hq : l.find? (fun x => decide ((W : Int) ≤ (x.l : Int))) with
    | some x =>
      have hx := List.mem_of_find?_eq_some hq
      have hp := List.find?_some hq
      simp only [decide_eq_true_eq] at hp
      have hl := longL_ge l x hx
      have hz := hr.zero x hx
      have he := hr.ends x hx
      exact ⟨x.a, W, rfl, by omega, fun i h1 h2 => hz i (by omega) (by omega), .inr (by omega)⟩
    | none =>
      obtain ⟨h1, h2⟩ := lonR_long l
      have hlt : longL l ≤ W := by
        rw [← h1]
        rcases h2 with h2 | ⟨x, hx, h2⟩
        · rw [h2]; exact Nat.zero_le _
        · have := List.find?_eq_none.1 hq x hx
          rw [h2]
          simp at this
          show x.l ≤ W
          omega
      refine ⟨(lonR l).1, (lonR l).2, rfl, by rw [h1]; omega, ?_, ?_⟩
      · rcases h2 with h2 | ⟨x, hx, h2⟩
        · rw [h2]; intro i h3 h4; simp at h4
        · rw [h2]; exact hr.zero x hx
      · rcases h2 with h2 | ⟨x, hx, h2⟩
        · rw [h2]; exact .inl ⟨rfl, rfl⟩
        · rw [h2]; exact .inr (hr.ends x hx)
end Go.Proofs.Ythpbeppfiinooaa
