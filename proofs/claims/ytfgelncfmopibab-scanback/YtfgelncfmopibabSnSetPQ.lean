/-
  What the reference's Settled says is what the program's homes say.
-/
import Derived.Test.YtfgelncfmopibabSnNeedP
import Derived.Test.YtfgelncfmopibabSnRSetQ
namespace Go.Proofs.Ytfgelncfmopibab
open Go.RowKit
def AllAt (C : List Pl) (k : Nat) (x : Int) : Prop := ∀ i, i < k → isPl (eZ C i) = true → (eZ C i).ph = x ∧ (eZ C i).pg = (i : Int)
def SomeAt (C : List Pl) (k : Nat) : Prop := ∃ i, i < k ∧ isPl (eZ C i) = true
theorem isPl_ph {z : Pl} (h : isPl z = true) : 0 ≤ z.ph ∧ z.ph < 256 := by
  unfold isPl onB at h
  simp only [decide_eq_true_eq] at h
  omega
theorem homeTo_iff {x : Int} {C : List Pl} {k : Nat} : homeTo x C k = true ↔ AllAt C k x := by
  induction k with
  | zero => exact ⟨fun _ i hi => by omega, fun _ => rfl⟩
  | succ k ih =>
    unfold homeTo
    rw [Bool.and_eq_true, ih]
    constructor
    · rintro ⟨h1, h2⟩ i hi hp
      by_cases e : i = k
      · subst e
        rw [hp] at h2
        simpa using h2
      · exact h1 i (by omega) hp
    · intro h
      refine ⟨fun i hi hp => h i (by omega) hp, ?_⟩
      cases hp : isPl (eZ C k) with
      | false => rfl
      | true => have := h k (by omega) hp; simp [this.1, this.2]
theorem mem_at {C : List Pl} {z : Pl} (h : z ∈ C) : ∃ i, i < C.length ∧ eZ C i = z := by
  obtain ⟨i, hi, rfl⟩ := List.mem_iff_getElem.1 h
  exact ⟨i, hi, by simp [eZ, hi]⟩
theorem eZ_mem' {C : List Pl} {i : Nat} (h : i < C.length) : eZ C i ∈ C := eZ_mem h
theorem needed_one {C : List Pl} {x : Int} (h1 : SomeAt C C.length) (h2 : AllAt C C.length x) : neededL C = [x] := by
  have hm : ∀ y, y ∈ neededL C ↔ y = x := by
    intro y
    rw [needed_mem]
    constructor
    · rintro ⟨z, hz, hp, rfl⟩
      obtain ⟨i, hi, rfl⟩ := mem_at hz
      exact (h2 i hi hp).1
    · rintro rfl
      obtain ⟨i, hi, hp⟩ := h1
      exact ⟨_, eZ_mem' hi, hp, (h2 i hi hp).1⟩
  have hl := needed_lt C
  generalize neededL C = l at *
  match l, hm, hl with
  | [], hm, _ => exact absurd ((hm x).2 rfl) (by simp)
  | [y], hm, _ => rw [(hm y).1 (by simp)]
  | y :: y' :: l, hm, hl =>
    have e1 := (hm y).1 (by simp)
    have e2 := (hm y').1 (by simp)
    rw [List.pairwise_cons] at hl
    have := hl.1 y' (by simp)
    omega
theorem homeP_yes {C : List Pl} {x : Int} (h1 : SomeAt C C.length) (h2 : AllAt C C.length x) : homeP C = x := by
  unfold homeP
  rw [needed_one h1 h2]
  show (if homeTo x C C.length then x else -1) = x
  rw [if_pos (homeTo_iff.2 h2)]
theorem homeP_no {C : List Pl} (h : ¬ (SomeAt C C.length ∧ ∃ x, AllAt C C.length x)) : homeP C = -1 := by
  unfold homeP
  split
  · rename_i x hx
    split
    · rename_i ht
      refine absurd ⟨?_, x, homeTo_iff.1 ht⟩ h
      have : x ∈ neededL C := by rw [hx]; simp
      obtain ⟨z, hz, hp, _⟩ := needed_mem.1 this
      obtain ⟨i, hi, rfl⟩ := mem_at hz
      exact ⟨i, hi, hp⟩
    · rfl
  · rfl
theorem refH_spec {zs C : List Pl} {a P : Nat} (he : ∀ i, i < P → eZ zs (a + i) = eZ C i) (k : Nat) (hk : k ≤ P) :
    (refH zs a k = some (-1) ∧ ¬ SomeAt C k) ∨ (∃ x, 0 ≤ x ∧ refH zs a k = some x ∧ SomeAt C k ∧ AllAt C k x) ∨ (refH zs a k = none ∧ ¬ ∃ x, AllAt C k x) := by
  induction k with
  | zero => exact .inl ⟨rfl, fun ⟨i, hi, _⟩ => by omega⟩
  | succ k ih =>
    have hek := he k (by omega)
    unfold refH
    rcases ih (by omega) with ⟨h1, h2⟩ | ⟨x, hx, h1, h2, h3⟩ | ⟨h1, h2⟩
    · rw [h1]
      dsimp only
      rw [hek]
      cases hp : isPl (eZ C k) with
      | false =>
        rw [if_pos rfl]
        refine .inl ⟨rfl, ?_⟩
        rintro ⟨i, hi, hpi⟩
        by_cases e : i = k
        · rw [e, hp] at hpi; cases hpi
        · exact h2 ⟨i, by omega, hpi⟩
      | true =>
        rw [if_neg (by simp)]
        by_cases hg : (eZ C k).pg = (k : Int)
        · rw [if_pos ⟨hg, .inl (by omega)⟩]
          refine .inr (.inl ⟨_, (isPl_ph hp).1, rfl, ⟨k, by omega, hp⟩, fun i hi hpi => ?_⟩)
          by_cases e : i = k
          · rw [e]; exact ⟨rfl, hg⟩
          · exact absurd ⟨i, by omega, hpi⟩ h2
        · rw [if_neg (fun h => hg h.1)]
          exact .inr (.inr ⟨rfl, fun ⟨y, hy⟩ => hg (hy k (by omega) hp).2⟩)
    · rw [h1]
      dsimp only
      rw [hek]
      cases hp : isPl (eZ C k) with
      | false =>
        rw [if_pos rfl]
        refine .inr (.inl ⟨x, hx, rfl, ?_, fun i hi hpi => ?_⟩)
        · obtain ⟨i, hi, hpi⟩ := h2
          exact ⟨i, by omega, hpi⟩
        · by_cases e : i = k
          · rw [e, hp] at hpi; cases hpi
          · exact h3 i (by omega) hpi
      | true =>
        rw [if_neg (by simp)]
        by_cases hg : (eZ C k).pg = (k : Int) ∧ (eZ C k).ph = x
        · rw [if_pos ⟨hg.1, .inr hg.2⟩]
          refine .inr (.inl ⟨x, hx, by rw [hg.2], ⟨k, by omega, hp⟩, fun i hi hpi => ?_⟩)
          by_cases e : i = k
          · rw [e]; exact ⟨hg.2, hg.1⟩
          · exact h3 i (by omega) hpi
        · rw [if_neg (by rintro ⟨h4, h5 | h5⟩; exact absurd h5 (by omega); exact hg ⟨h4, h5⟩)]
          refine .inr (.inr ⟨rfl, ?_⟩)
          rintro ⟨y, hy⟩
          obtain ⟨i, hi, hpi⟩ := h2
          have e1 := (hy i (by omega) hpi).1
          have e2 := (h3 i hi hpi).1
          have e3 := hy k (by omega) hp
          exact hg ⟨e3.2, by rw [e3.1, ← e1, e2]⟩
    · rw [h1]
      refine .inr (.inr ⟨rfl, ?_⟩)
      rintro ⟨y, hy⟩
      exact h2 ⟨y, fun i hi hpi => hy i (by omega) hpi⟩
theorem refG_iff {zs : List Pl} {P B : Nat} {x : Int} {n : Nat} : refG zs P B x n = true ↔ ∃ j, j < n ∧ j / P ≠ B ∧ isPl (eZ zs j) = true ∧ (eZ zs j).ph = x := by
  induction n with
  | zero => exact ⟨fun h => (by cases h), fun ⟨j, hj, _⟩ => (by omega)⟩
  | succ n ih =>
    unfold refG
    rw [Bool.or_eq_true, ih]
    constructor
    · rintro (⟨j, hj, h⟩ | h)
      · exact ⟨j, by omega, h⟩
      · simp at h
        exact ⟨n, by omega, h.1, h.2.1, h.2.2⟩
    · rintro ⟨j, hj, h1, h2, h3⟩
      by_cases e : j = n
      · subst e
        right
        simp [h1, h2, h3]
      · exact .inl ⟨j, by omega, h1, h2, h3⟩
theorem two_of_filter {m B : Nat} (q : Nat → Bool) (hB : B < m) (hq : q B = true) : 1 < ((List.range m).filter q).length ↔ ∃ i, i < m ∧ i ≠ B ∧ q i = true := by
  have hnd : ((List.range m).filter q).Nodup := List.Pairwise.filter _ List.nodup_range
  have hBm : B ∈ (List.range m).filter q := List.mem_filter.2 ⟨by simpa using hB, hq⟩
  constructor
  · intro h
    generalize hl : (List.range m).filter q = l at *
    match l, h, hnd, hBm with
    | x :: y :: l, _, hnd, _ =>
      have hx : x ∈ (List.range m).filter q := by rw [hl]; simp
      have hy : y ∈ (List.range m).filter q := by rw [hl]; simp
      have hxy : x ≠ y := by simp at hnd; exact fun e => hnd.1.1 e
      by_cases e : x = B
      · exact ⟨y, by simpa using (List.mem_filter.1 hy).1, fun e' => hxy (e.trans e'.symm), (List.mem_filter.1 hy).2⟩
      · exact ⟨x, by simpa using (List.mem_filter.1 hx).1, e, (List.mem_filter.1 hx).2⟩
  · rintro ⟨i, hi, hne, hqi⟩
    have him : i ∈ (List.range m).filter q := List.mem_filter.2 ⟨by simpa using hi, hqi⟩
    generalize (List.range m).filter q = l at *
    match l, him, hBm with
    | [x], h1, h2 => simp at h1 h2; omega
    | x :: y :: l, _, _ => simp
theorem set_eq {zs : List Pl} {P B a m n : Nat} (hl : zs.length = n) (hn : n = m * P) (ha : a = B * P) (hP : 1 ≤ P) (hB : B < m) :
    setR zs P B a n = if oneH (guestsL zs P (List.range m)) (homeP (chunkL zs P B)) = -1 then (0, false) else (oneH (guestsL zs P (List.range m)) (homeP (chunkL zs P B)), true) := by
  have hlen : ∀ i, i < m → (chunkL zs P i).length = P := fun i hi => by
    have h1 : (i + 1) * P ≤ m * P := Nat.mul_le_mul_right P hi
    rw [Nat.succ_mul] at h1
    simp [chunkL]; omega
  have he : ∀ i, i < P → eZ zs (a + i) = eZ (chunkL zs P B) i := fun i hi => by rw [chunkL_at hi, ha]
  have hs := refH_spec he P (Nat.le_refl _)
  have hlB := hlen B hB
  unfold setR
  rcases hs with ⟨h1, h2⟩ | ⟨x, hx, h1, h2, h3⟩ | ⟨h1, h2⟩
  · rw [homeP_no (fun h => h2 (by rw [hlB] at h; exact h.1)), h1]
    simp [oneH]
  · have h2' : SomeAt (chunkL zs P B) (chunkL zs P B).length := by rw [hlB]; exact h2
    have h3' : AllAt (chunkL zs P B) (chunkL zs P B).length x := by rw [hlB]; exact h3
    rw [homeP_yes h2' h3', h1]
    dsimp only
    rw [if_neg (by omega)]
    have hxl : x < 256 := by
      obtain ⟨i, hi, hp⟩ := h2
      rw [← (h3 i hi hp).1]
      exact (isPl_ph hp).2
    have hq : decide ((x.toNat : Int) ∈ neededL (chunkL zs P B)) = true := by
      rw [show ((x.toNat : Nat) : Int) = x by omega, needed_one h2' h3']; simp
    have hG : 1 < eI (guestsL zs P (List.range m)) x.toNat ↔ refG zs P B x n = true := by
      rw [guests_at, refG_iff]
      have := two_of_filter (fun i => decide ((x.toNat : Int) ∈ neededL (chunkL zs P i))) hB hq
      constructor
      · intro h
        obtain ⟨i, hi, hne, hqi⟩ := this.1 (by omega)
        rw [decide_eq_true_eq, show ((x.toNat : Nat) : Int) = x by omega, needed_mem] at hqi
        obtain ⟨z, hz, hp, hph⟩ := hqi
        obtain ⟨t, ht, rfl⟩ := mem_at hz
        rw [hlen i hi] at ht
        rw [chunkL_at ht] at hp hph
        refine ⟨i * P + t, ?_, ?_, hp, hph⟩
        · have h1 : (i + 1) * P ≤ m * P := Nat.mul_le_mul_right P hi
          rw [Nat.succ_mul] at h1
          omega
        · rw [Nat.mul_comm, Nat.mul_add_div (by omega), Nat.div_eq_of_lt ht]; exact hne
      · rintro ⟨j, hj, hne, hp, hph⟩
        have hjm : j / P < m := by rw [Nat.div_lt_iff_lt_mul (by omega)]; omega
        have hjt : j % P < P := Nat.mod_lt _ (by omega)
        have hjd : j / P * P + j % P = j := by rw [Nat.mul_comm]; exact Nat.div_add_mod j P
        have h2'' := this.2 ⟨j / P, hjm, hne, by
          rw [decide_eq_true_eq, show ((x.toNat : Nat) : Int) = x by omega, needed_mem]
          refine ⟨eZ (chunkL zs P (j / P)) (j % P), eZ_mem' (by rw [hlen _ hjm]; exact hjt), ?_, ?_⟩
          · rw [chunkL_at hjt, hjd]; exact hp
          · rw [chunkL_at hjt, hjd]; exact hph⟩
        omega
    unfold oneH
    rw [if_neg (show ¬ x = -1 by omega)]
    by_cases hg : refG zs P B x n = true
    · rw [if_pos hg, if_pos (hG.2 hg), if_pos rfl]
    · rw [if_neg hg, if_neg (fun h => hg (hG.1 h)), if_neg (show ¬ x = -1 by omega)]
  · rw [homeP_no (fun h => h2 (by rw [hlB] at h; exact h.2)), h1]
    simp [oneH]
end Go.Proofs.Ytfgelncfmopibab
