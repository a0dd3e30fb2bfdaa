/-
  Runs and holes of a range, plain: together they have each block of it once, and no block stands in a hole.
-/
import Derived.Test.YtmboohadindlfaaXtH
namespace Go.Proofs.Ytmboohadindlfaa
def sumH (l : List Hol) : Int := (l.map Hol.l).sum
theorem sumH_append (a b : List Hol) : sumH (a ++ b) = sumH a + sumH b := by simp [sumH]
theorem sumH_snoc (l : List Hol) (x : Hol) : sumH (l ++ [x]) = sumH l + x.l := by simp [sumH]
theorem sumH_if {a b : Int} (h : a ≤ b) : sumH (holIf a b) = b - a := by
  by_cases hab : a < b
  · rw [holIf_yes hab]; simp [sumH]
  · rw [holIf_no hab]; simp [sumH]; omega
/-- In order, and all within a range. -/
structure Within (a b : Int) (rs : List Ext) : Prop where
  ord : Ord rs
  lo : ∀ r ∈ rs, a ≤ r.lo
  hi : ∀ r ∈ rs, endI r ≤ b
theorem Within.tail {a b : Int} {r : Ext} {rs : List Ext} (h : Within a b (r :: rs)) : Within (r.lo + r.ln) b rs := by
  refine ⟨⟨fun e he => h.ord.one e (List.mem_cons_of_mem _ he), (List.pairwise_cons.1 h.ord.pw).2⟩, fun x hx => ?_, fun x hx => h.hi x (List.mem_cons_of_mem _ hx)⟩
  exact (List.pairwise_cons.1 h.ord.pw).1 x hx
theorem ranges_sum {b : Int} {rs : List Ext} : ∀ {a : Int}, a ≤ b → Within a b rs → sumE rs + sumH (holesL b a rs) = b - a := by
  induction rs with
  | nil => intro a hab _; simp only [holesL]; rw [sumH_if hab]; simp [sumE]
  | cons r rs ih =>
    intro a hab h
    have h1 := h.lo r List.mem_cons_self
    have h2 := h.hi r List.mem_cons_self
    unfold endI at h2
    have := ih h2 h.tail
    have hs : sumE (r :: rs) = r.ln + sumE rs := by simp [sumE]
    rw [hs]; simp only [holesL]; rw [sumH_append, sumH_if h1]; omega
theorem holIf_mem {a b : Int} {x : Hol} (h : x ∈ holIf a b) : x.a = a ∧ 0 < x.l ∧ x.a + x.l = b := by
  by_cases hab : a < b
  · rw [holIf_yes hab, List.mem_singleton] at h; subst h; dsimp only; omega
  · rw [holIf_no hab] at h; cases h
theorem holes_mem {b : Int} {rs : List Ext} {x : Hol} : ∀ {a : Int}, Within a b rs → x ∈ holesL b a rs → a ≤ x.a ∧ 0 < x.l ∧ x.a + x.l ≤ b ∧ ∀ r ∈ rs, endI r ≤ x.a ∨ x.a + x.l ≤ r.lo := by
  induction rs with
  | nil =>
    intro a _ hx
    simp only [holesL] at hx
    have := holIf_mem hx
    exact ⟨by omega, by omega, by omega, fun r hr => by cases hr⟩
  | cons r rs ih =>
    intro a h hx
    have h1 := h.lo r List.mem_cons_self
    have h2 := h.hi r List.mem_cons_self
    have h3 := one_pos (h.ord.one r List.mem_cons_self)
    have h4 := h.tail
    have h5 := h4.lo
    unfold endI at h2 h3
    simp only [holesL, List.mem_append] at hx
    rcases hx with hx | hx
    · have := holIf_mem hx
      refine ⟨by omega, by omega, by omega, fun e he => .inr ?_⟩
      rcases List.mem_cons.1 he with rfl | he
      · omega
      · have := h5 e he; omega
    · obtain ⟨g1, g2, g3, g4⟩ := ih h4 hx
      refine ⟨by omega, g2, g3, fun e he => ?_⟩
      rcases List.mem_cons.1 he with rfl | he
      · left; unfold endI; omega
      · exact g4 e he
theorem Ord.within {l : List Ext} (h : Ord l) (a b : Int) : Within a b (runsL a b l) := by
  refine ⟨h.runs a b, fun r hr => ?_, fun r hr => ?_⟩
  · obtain ⟨e, -, hp, rfl⟩ := runs_mem hr; exact (part_in hp).2.1
  · obtain ⟨e, -, hp, rfl⟩ := runs_mem hr; exact (part_in hp).2.2.2
/-- Where no block stands from x to ahead of y, At tells so, and that as many are free. -/
theorem atL_gap {l : List Ext} {x y : Int} (h1 : ∀ e ∈ l, oneB e = true) (h2 : ∀ e ∈ l, endI e ≤ x ∨ y ≤ e.lo) (hxy : x < y) (hy : y ≤ 65536) : ∃ k, atL l x = (0, k, false) ∧ y - x ≤ k := by
  induction l with
  | nil => exact ⟨65536 - x, rfl, by omega⟩
  | cons e l ih =>
    have g1 := one_pos (h1 e List.mem_cons_self)
    have g2 := h2 e List.mem_cons_self
    unfold endI at g1 g2
    unfold atL
    by_cases c1 : x < e.lo
    · rw [if_pos c1]; exact ⟨e.lo - x, rfl, by omega⟩
    · rw [if_neg c1]
      by_cases c2 : x < e.lo + e.ln
      · omega
      · rw [if_neg c2]
        exact ih (fun e he => h1 e (List.mem_cons_of_mem _ he)) (fun e he => h2 e (List.mem_cons_of_mem _ he))
theorem runs_mem_of {f t : Int} {l : List Ext} {e : Ext} (h : e ∈ l) (hp : partB f t e = true) : partE f t e ∈ runsL f t l := by
  unfold runsL
  exact List.mem_map.2 ⟨e, List.mem_filter.2 ⟨h, hp⟩, rfl⟩
theorem hole_at {l : List Ext} (h : Ord l) {a b : Int} (hb : b ≤ 65536) {x : Hol} (hx : x ∈ holesL b a (runsL a b l)) : ∃ k, atL l x.a = (0, k, false) ∧ x.l ≤ k := by
  obtain ⟨g1, g2, g3, g4⟩ := holes_mem (h.within a b) hx
  have : ∃ k, atL l x.a = (0, k, false) ∧ x.a + x.l - x.a ≤ k := by
    refine atL_gap h.one (fun e he => ?_) (by omega) (by omega)
    have ho := one_pos (h.one e he)
    cases hp : partB a b e with
    | true =>
      have := g4 _ (runs_mem_of he hp)
      rw [partE_yes hp] at this
      rw [partB_iff] at hp
      unfold endI at *
      dsimp only at this
      omega
    | false =>
      have hn : ¬ max e.lo a < min (e.lo + e.ln) b := fun hc => by rw [partB_iff.2 hc] at hp; cases hp
      unfold endI at *
      omega
  obtain ⟨k, h1, h2⟩ := this
  exact ⟨k, h1, by omega⟩
theorem runs_all {l : List Ext} (h : ∀ e ∈ l, oneB e = true) : runsL 0 65536 l = l := by
  induction l with
  | nil => rfl
  | cons e l ih =>
    have he := oneB_iff.1 (h e List.mem_cons_self)
    have hp : partB 0 65536 e = true := partB_iff.2 (by omega)
    have ih := ih (fun x hx => h x (List.mem_cons_of_mem _ hx))
    unfold runsL at ih ⊢
    rw [List.filter_cons_of_pos hp, List.map_cons, ih, partE_yes hp]
    congr 1
    rw [show max e.lo 0 = e.lo by omega, show min (e.lo + e.ln) 65536 = e.lo + e.ln by omega, show e.lo + e.ln - e.lo = e.ln by omega, show e.ph + e.lo - e.lo = e.ph by omega]
theorem runs_none {a b : Int} (l : List Ext) (h : b ≤ a) : runsL a b l = [] := by
  unfold runsL
  rw [List.map_eq_nil_iff, List.filter_eq_nil_iff]
  intro e _ hp
  rw [partB_iff] at hp
  omega
/-- The lengths of the runs and of the holes of a range add up to it. -/
theorem ranges_total {l : List Ext} (h : Ord l) (a b : Int) : sumE (runsL a b l) + sumH (holesL b a (runsL a b l)) = max 0 (b - a) := by
  by_cases hab : a ≤ b
  · rw [ranges_sum hab (h.within a b)]; omega
  · rw [runs_none l (by omega)]; simp only [holesL]; rw [holIf_no (by omega)]; simp [sumE, sumH]; omega
end Go.Proofs.Ytmboohadindlfaa
