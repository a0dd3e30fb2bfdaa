/-
  What was found, as plain numbers: what counts, which comes ahead of which, the newest of each page; in any order, and with older things beside.
-/
import Derived.Test.YtfgelncfmopibaaBase
namespace Go.Proofs.Ytfgelncfmopibaa
/-- Something that was found: its place, its header. -/
structure Fd where
  ph : Int
  pg : Int
  k : Int
  p : Int
  s : Int
  t : Int
/-- Whether a header with Seq s and Stamp t is newer than one with s' and t'. -/
def newB (s t s' t' : Int) : Bool := decide (s' < s) || (decide (s = s') && decide (t < t'))
/-- Whether a header may be. -/
def chkB (k g s t : Int) : Bool := decide (1 ≤ k ∧ k ≤ 3 ∧ 0 ≤ g ∧ g < 1048576 ∧ 1 ≤ s ∧ s ≤ 1152921504606846976 ∧ s ≤ t ∧ t ≤ 1152921504606846976 ∧ (k = 1 ∨ t = s))
def onB (P ph pg : Int) : Bool := decide (0 ≤ ph ∧ ph < 256 ∧ 0 ≤ pg ∧ pg < P)
def cntB (P : Int) (f : Fd) : Bool := chkB f.k f.p f.s f.t && !(f.k == 3) && onB P f.ph f.pg
def cmpI (a b : Int) : Int := if a < b then -1 else if b < a then 1 else 0
def orI (a b : Int) : Int := if a = 0 then b else a
def cmpP (a b c d : Int) : Int := orI (cmpI a c) (cmpI b d)
def aheadB (a b : Fd) : Bool := if newB a.s a.t b.s b.t || newB b.s b.t a.s a.t then newB a.s a.t b.s b.t else decide (cmpP a.ph a.pg b.ph b.pg < 0)
theorem aheadB_iff {a b : Fd} : aheadB a b = true ↔ b.s < a.s ∨ (a.s = b.s ∧ (a.t < b.t ∨ (a.t = b.t ∧ (a.ph < b.ph ∨ (a.ph = b.ph ∧ a.pg < b.pg))))) := by
  unfold aheadB newB cmpP orI cmpI
  simp only [Bool.or_eq_true, Bool.and_eq_true, decide_eq_true_eq]
  split
  · simp only [Bool.or_eq_true, Bool.and_eq_true, decide_eq_true_eq]
    constructor <;> intro h <;> omega
  · simp only [decide_eq_true_eq]
    split <;> (try split at *) <;> (try split at *) <;> constructor <;> intro h <;> omega
def noneF : Fd := ⟨-1, 0, 0, 0, 0, 0⟩
/-- The newest so far. -/
def stepF (l : List Fd) (f : Fd) : List Fd := if f.p < (l.length : Int) ∧ aheadB f (l.getD f.p.toNat noneF) = true then l.set f.p.toNat f else l
def newF (N : Nat) (L : List Fd) : List Fd := L.foldl stepF (List.replicate N noneF)
def newestL (P : Int) (N : Nat) (L : List Fd) : List Fd := newF N (L.filter (cntB P))
theorem newF_snoc (N : Nat) (L : List Fd) (f : Fd) : newF N (L ++ [f]) = stepF (newF N L) f := by simp [newF]
theorem stepF_length (l : List Fd) (f : Fd) : (stepF l f).length = l.length := by unfold stepF; split <;> simp
theorem newF_length (N : Nat) (L : List Fd) : (newF N L).length = N := by
  unfold newF
  have : ∀ (M : List Fd) (l : List Fd), (M.foldl stepF l).length = l.length := by
    intro M
    induction M with
    | nil => intro l; rfl
    | cons x M ih => intro l; rw [List.foldl_cons, ih, stepF_length]
  rw [this]; simp
/-- r is the newest of those of L with page p. -/
def BestOf (L : List Fd) (p : Nat) (r : Fd) : Prop := (r ∈ L ∧ r.p = (p : Int) ∧ ∀ g ∈ L, g.p = (p : Int) → aheadB g r = false) ∨ (r = noneF ∧ ∀ g ∈ L, g.p ≠ (p : Int))
theorem best_one {L L' : List Fd} {p : Nat} {r r' : Fd} (h : BestOf L p r) (h' : BestOf L' p r') (hm : ∀ f, f ∈ L ↔ f ∈ L') : r.ph = r'.ph ∧ r.pg = r'.pg := by
  rcases h with ⟨hr, hp, hb⟩ | ⟨rfl, hb⟩ <;> rcases h' with ⟨hr', hp', hb'⟩ | ⟨rfl, hb'⟩
  · have h1 := hb r' ((hm _).2 hr') hp'
    have h2 := hb' r ((hm _).1 hr) hp
    have n1 : ¬ aheadB r' r = true := by rw [h1]; simp
    have n2 : ¬ aheadB r r' = true := by rw [h2]; simp
    rw [aheadB_iff] at n1 n2
    omega
  · exact absurd hp (hb' _ ((hm _).1 hr))
  · exact absurd hp' (hb _ ((hm _).2 hr'))
  · exact ⟨rfl, rfl⟩
theorem newF_best (N : Nat) (L : List Fd) (hL : ∀ f ∈ L, 0 ≤ f.p ∧ 1 ≤ f.s) (p : Nat) (hp : p < N) : BestOf L p ((newF N L).getD p noneF) := by
  have key : ∀ M : List Fd, (∀ f ∈ M, 0 ≤ f.p ∧ 1 ≤ f.s) → BestOf M.reverse p ((newF N M.reverse).getD p noneF) := by
    intro M
    induction M with
    | nil => intro _; exact .inr ⟨by simp [newF, hp], by simp⟩
    | cons x M ih =>
      intro hM
      have ih := ih (fun f hf => hM f (List.mem_cons_of_mem _ hf))
      have hx := hM x (List.mem_cons_self ..)
      rw [List.reverse_cons, newF_snoc]
      have hlen := newF_length N M.reverse
      generalize newF N M.reverse = l at *
      by_cases hxp : x.p = (p : Int)
      · have hpn : x.p.toNat = p := by omega
        by_cases ha : aheadB x (l.getD p noneF) = true
        · have e : (stepF l x).getD p noneF = x := by
            unfold stepF
            rw [hpn, if_pos ⟨by omega, ha⟩]
            simp [List.getD_eq_getElem?_getD, hlen, hp]
          rw [e]
          refine .inl ⟨by simp, hxp, fun g hg hgp => ?_⟩
          rw [List.mem_append] at hg
          cases hB : aheadB g x with
          | false => rfl
          | true =>
            rcases hg with hg | hg
            · rcases ih with ⟨hr, hrp, hb⟩ | ⟨hr, hb⟩
              · have := hb g hg hgp
                have n1 : ¬ aheadB g (l.getD p noneF) = true := by rw [this]; simp
                rw [aheadB_iff] at n1 ha hB
                omega
              · exact absurd hgp (hb g hg)
            · simp at hg
              subst hg
              rw [aheadB_iff] at hB
              omega
        · have e : (stepF l x).getD p noneF = l.getD p noneF := by
            unfold stepF
            rw [hpn, if_neg (fun h => ha h.2)]
          rw [e]
          rcases ih with ⟨hr, hrp, hb⟩ | ⟨hr, hb⟩
          · refine .inl ⟨List.mem_append.2 (.inl hr), hrp, fun g hg hgp => ?_⟩
            rw [List.mem_append] at hg
            rcases hg with hg | hg
            · exact hb g hg hgp
            · simp at hg; subst hg; simpa using ha
          · exfalso
            apply ha
            rw [hr, aheadB_iff]
            left
            show (0 : Int) < x.s
            omega
      · have e : (stepF l x).getD p noneF = l.getD p noneF := by
          unfold stepF
          split
          · have : x.p.toNat ≠ p := by omega
            simp [List.getD_eq_getElem?_getD, this]
          · rfl
        rw [e]
        rcases ih with ⟨hr, hrp, hb⟩ | ⟨hr, hb⟩
        · refine .inl ⟨List.mem_append.2 (.inl hr), hrp, fun g hg hgp => ?_⟩
          rw [List.mem_append] at hg
          rcases hg with hg | hg
          · exact hb g hg hgp
          · simp at hg; subst hg; exact absurd hgp hxp
        · refine .inr ⟨hr, fun g hg => ?_⟩
          rw [List.mem_append] at hg
          rcases hg with hg | hg
          · exact hb g hg
          · simp at hg; subst hg; exact hxp
  have := key L.reverse (fun f hf => hL f (List.mem_reverse.1 hf))
  rwa [List.reverse_reverse] at this
theorem cnt_facts {P : Int} {f : Fd} (h : cntB P f = true) : 0 ≤ f.p ∧ 1 ≤ f.s := by
  unfold cntB chkB at h
  simp only [Bool.and_eq_true, decide_eq_true_eq] at h
  omega
theorem newestL_length (P : Int) (N : Nat) (L : List Fd) : (newestL P N L).length = N := newF_length _ _
theorem newestL_best (P : Int) (N : Nat) (L : List Fd) (p : Nat) (hp : p < N) : BestOf (L.filter (cntB P)) p ((newestL P N L).getD p noneF) :=
  newF_best N _ (fun _ hf => cnt_facts (List.mem_filter.1 hf).2) p hp
/-- P7.4: the same things in another order. -/
theorem newestL_order (P : Int) (N : Nat) (L L' : List Fd) (hm : ∀ f, f ∈ L ↔ f ∈ L') (p : Nat) (hp : p < N) :
    ((newestL P N L).getD p noneF).ph = ((newestL P N L').getD p noneF).ph ∧ ((newestL P N L).getD p noneF).pg = ((newestL P N L').getD p noneF).pg :=
  best_one (newestL_best P N L p hp) (newestL_best P N L' p hp) (fun f => by simp [List.mem_filter, hm])
/-- P7.5: with something older beside. -/
theorem newestL_old (P : Int) (N : Nat) (L : List Fd) (f o : Fd) (hf : f ∈ L) (hc : cntB P f = true) (hp' : o.p = f.p) (ho : aheadB f o = true) (p : Nat) (hp : p < N) :
    ((newestL P N (L ++ [o])).getD p noneF).ph = ((newestL P N L).getD p noneF).ph ∧ ((newestL P N (L ++ [o])).getD p noneF).pg = ((newestL P N L).getD p noneF).pg := by
  by_cases hco : cntB P o = true
  · have e : newestL P N (L ++ [o]) = stepF (newestL P N L) o := by
      unfold newestL; rw [List.filter_append]; simp [hco, newF_snoc]
    have e2 : stepF (newestL P N L) o = newestL P N L := by
      unfold stepF
      rw [if_neg]
      rintro ⟨h1, h2⟩
      rw [newestL_length] at h1
      have h0 := (cnt_facts hc).1
      have hb := newestL_best P N L o.p.toNat (by omega)
      rcases hb with ⟨hr, hrp, hb⟩ | ⟨hr, hb⟩
      · have := hb f (List.mem_filter.2 ⟨hf, hc⟩) (by omega)
        have n1 : ¬ aheadB f ((newestL P N L).getD o.p.toNat noneF) = true := by rw [this]; simp
        rw [aheadB_iff] at n1 ho h2
        omega
      · exact hb f (List.mem_filter.2 ⟨hf, hc⟩) (by omega)
    rw [e, e2]
    exact ⟨rfl, rfl⟩
  · have e : newestL P N (L ++ [o]) = newestL P N L := by
      unfold newestL; rw [List.filter_append]; simp [hco]
    rw [e]
    exact ⟨rfl, rfl⟩
/-- The greatest Stamp. -/
def greatL (L : List Fd) : Int := L.foldl (fun a f => if chkB f.k f.p f.s f.t then max a f.t else a) 0
theorem greatL_snoc (L : List Fd) (f : Fd) : greatL (L ++ [f]) = if chkB f.k f.p f.s f.t then max (greatL L) f.t else greatL L := by simp [greatL]
theorem greatL_best (L : List Fd) : (∀ g ∈ L, chkB g.k g.p g.s g.t = true → g.t ≤ greatL L) ∧ (greatL L = 0 ∨ ∃ g ∈ L, chkB g.k g.p g.s g.t = true ∧ g.t = greatL L) ∧ 0 ≤ greatL L := by
  have key : ∀ M : List Fd, (∀ g ∈ M.reverse, chkB g.k g.p g.s g.t = true → g.t ≤ greatL M.reverse) ∧ (greatL M.reverse = 0 ∨ ∃ g ∈ M.reverse, chkB g.k g.p g.s g.t = true ∧ g.t = greatL M.reverse) ∧ 0 ≤ greatL M.reverse := by
    intro M
    induction M with
    | nil => exact ⟨by simp, .inl rfl, by simp [greatL]⟩
    | cons x M ih =>
      obtain ⟨h1, h2, h3⟩ := ih
      rw [List.reverse_cons, greatL_snoc]
      generalize greatL M.reverse = G at *
      by_cases hc : chkB x.k x.p x.s x.t = true
      · rw [if_pos hc]
        refine ⟨fun g hg hgc => ?_, ?_, by omega⟩
        · rw [List.mem_append] at hg
          rcases hg with hg | hg
          · have := h1 g hg hgc; omega
          · simp at hg; subst hg; omega
        · by_cases hm : G ≤ x.t
          · exact .inr ⟨x, by simp, hc, by omega⟩
          · rcases h2 with h2 | ⟨g, hg, hgc, hgt⟩
            · left; unfold chkB at hc; simp only [decide_eq_true_eq] at hc; omega
            · exact .inr ⟨g, by simp at hg ⊢; exact .inl hg, hgc, by omega⟩
      · rw [if_neg hc]
        refine ⟨fun g hg hgc => ?_, ?_, h3⟩
        · rw [List.mem_append] at hg
          rcases hg with hg | hg
          · exact h1 g hg hgc
          · simp at hg; subst hg; exact absurd hgc hc
        · rcases h2 with h2 | ⟨g, hg, hgc, hgt⟩
          · exact .inl h2
          · exact .inr ⟨g, by simp at hg ⊢; exact .inl hg, hgc, hgt⟩
  have := key L.reverse
  rwa [List.reverse_reverse] at this
theorem greatL_order (L L' : List Fd) (hm : ∀ f, f ∈ L ↔ f ∈ L') : greatL L = greatL L' := by
  obtain ⟨a1, a2, a3⟩ := greatL_best L
  obtain ⟨b1, b2, b3⟩ := greatL_best L'
  rcases a2 with a2 | ⟨g, hg, hgc, hgt⟩ <;> rcases b2 with b2 | ⟨g', hg', hgc', hgt'⟩
  · omega
  · have := a1 g' ((hm _).2 hg') hgc'; omega
  · have := b1 g ((hm _).1 hg) hgc; omega
  · have := a1 g' ((hm _).2 hg') hgc'
    have := b1 g ((hm _).1 hg) hgc
    omega
theorem greatL_le (L : List Fd) : greatL L ≤ 1152921504606846976 := by
  obtain ⟨_, h | ⟨g, _, hgc, hgt⟩, _⟩ := greatL_best L
  · omega
  · unfold chkB at hgc; simp only [decide_eq_true_eq] at hgc; omega
end Go.Proofs.Ytfgelncfmopibaa
