/-
  Lists of extents in order, plain: there is one order, parts stay in order, and the form keeps it.
-/
import Derived.Test.YtmboohadindlfaaXtR
namespace Go.Proofs.Ytmboohadindlfaa
/-- All may be, and each begins behind the end of those ahead. -/
structure Ord (s : List Ext) : Prop where
  one : ∀ e ∈ s, oneB e = true
  pw : s.Pairwise (fun a b => endI a ≤ b.lo)
theorem one_pos {e : Ext} (h : oneB e = true) : e.lo < endI e := by rw [oneB_iff] at h; unfold endI; omega
theorem chkN_ord {s : List Ext} (h : chkN s = true) : Ord s := by
  have h1 : ∀ k, (hk : k < s.length) → oneB s[k] = true := fun k hk => by
    have := chkN_iff.1 h k hk
    unfold okN at this
    have := (Bool.and_eq_true_iff.1 this).1
    simpa [eE, hk] using this
  refine ⟨fun e he => ?_, ?_⟩
  · obtain ⟨k, hk, rfl⟩ := List.mem_iff_getElem.1 he
    exact h1 k hk
  · rw [List.pairwise_iff_getElem]
    have step : ∀ j, (hj : j + 1 < s.length) → endI s[j] ≤ s[j + 1].lo := fun j hj => by
      have := chkN_iff.1 h (j + 1) hj
      unfold okN at this
      have := (Bool.and_eq_true_iff.1 this).2
      simpa [eE, hj, show j < s.length by omega] using this
    intro i j hi hj hij
    induction j with
    | zero => omega
    | succ j ih =>
      rcases Nat.lt_succ_iff_lt_or_eq.1 hij with h' | h'
      · have a := ih (by omega) h'
        have b := step j hj
        have c := one_pos (h1 j (by omega))
        omega
      · subst h'
        exact step i hj
theorem ord_chkN {s : List Ext} (h : Ord s) : chkN s = true := by
  rw [chkN_iff]
  intro k hk
  unfold okN
  rw [Bool.and_eq_true_iff]
  refine ⟨h.one _ (eE_mem hk), ?_⟩
  rcases Nat.eq_zero_or_pos k with hz | hz
  · simp [hz]
  · have := List.pairwise_iff_getElem.1 h.pw (k - 1) k (by omega) hk (by omega)
    simp [eE, hk, show k - 1 < s.length by omega]
    right; exact this
theorem chkB_ord {s : List Ext} (h : chkB s = true) : Ord s := by
  refine chkN_ord (chkN_iff.2 fun k hk => ?_)
  have := chkB_iff.1 h k hk
  unfold okAt at this
  unfold okN
  rw [Bool.and_eq_true_iff] at *
  refine ⟨this.1, ?_⟩
  have := this.2
  rw [Bool.or_eq_true_iff] at *
  rcases this with h' | h'
  · exact .inl h'
  · exact .inr (Bool.and_eq_true_iff.1 h').1
theorem Ord.sorted {s : List Ext} (h : Ord s) : s.Pairwise (fun a b => a.lo ≤ b.lo) := by
  refine (List.pairwise_iff_forall_sublist.2 ?_)
  intro a b hs
  have hp := List.pairwise_iff_forall_sublist.1 h.pw hs
  have := one_pos (h.one a (hs.subset (by simp)))
  omega
theorem Ord.inj {s : List Ext} (h : Ord s) {a b : Ext} (ha : a ∈ s) (hb : b ∈ s) (e : a.lo = b.lo) : a = b := by
  obtain ⟨i, hi, rfl⟩ := List.mem_iff_getElem.1 ha
  obtain ⟨j, hj, rfl⟩ := List.mem_iff_getElem.1 hb
  rcases Nat.lt_trichotomy i j with hij | hij | hij
  · have := List.pairwise_iff_getElem.1 h.pw i j hi hj hij
    have := one_pos (h.one _ (List.getElem_mem hi))
    omega
  · subst hij; rfl
  · have := List.pairwise_iff_getElem.1 h.pw j i hj hi hij
    have := one_pos (h.one _ (List.getElem_mem hj))
    omega
/-- Extents in order are the only ones sorted so. -/
theorem Ord.unique {s t : List Ext} (h : Ord s) (hp : t.Perm s) (ht : t.Pairwise (fun a b => a.lo ≤ b.lo)) : t = s :=
  List.Perm.eq_of_pairwise (le := fun a b => a.lo ≤ b.lo) (fun a b ha hb h1 h2 => h.inj (hp.subset ha) hb (by omega)) ht h.sorted hp
def srt (l : List Ext) : List Ext := l.mergeSort fun a b => decide (a.lo ≤ b.lo)
theorem srt_perm (l : List Ext) : (srt l).Perm l := List.mergeSort_perm _ _
theorem srt_sorted (l : List Ext) : (srt l).Pairwise (fun a b => a.lo ≤ b.lo) := by
  have := List.pairwise_mergeSort (le := fun (a b : Ext) => decide (a.lo ≤ b.lo)) (fun a b c h1 h2 => by simp at *; omega) (fun a b => by simp; omega) l
  exact this.imp (fun h => by simpa using h)
/-- Two rows that are sorted, of the same extents: both are in order, or none is. -/
theorem sorted_same {s t : List Ext} (hp : s.Perm t) (hs : s.Pairwise (fun a b => a.lo ≤ b.lo)) (ht : t.Pairwise (fun a b => a.lo ≤ b.lo)) : (chkN s = true ∧ s = t) ∨ (chkN s = false ∧ chkN t = false) := by
  cases h1 : chkN s with
  | true => exact .inl ⟨rfl, ((chkN_ord h1).unique hp.symm ht).symm⟩
  | false =>
    refine .inr ⟨rfl, ?_⟩
    cases h2 : chkN t with
    | false => rfl
    | true =>
      have := (chkN_ord h2).unique hp hs
      rw [this, h2] at h1
      cases h1
/-- Whether extents may be normed, and their form. -/
def okR (l : List Ext) : Bool := chkN (srt l)
def normR (l : List Ext) : List Ext := normL (srt l)
theorem norm_spec {s l : List Ext} (hp : s.Perm l) (hs : s.Pairwise (fun a b => a.lo ≤ b.lo)) : chkN s = okR l ∧ (okR l = true → normL s = normR l) := by
  rcases sorted_same (hp.trans (srt_perm l).symm) hs (srt_sorted l) with ⟨h, e⟩ | ⟨h1, h2⟩
  · unfold okR normR
    rw [← e]
    exact ⟨rfl, fun _ => rfl⟩
  · unfold okR normR
    rw [h1, h2]
    exact ⟨rfl, fun h => by cases h⟩
theorem ord_norm {s l : List Ext} (h : Ord s) (hp : s.Perm l) : okR l = true ∧ normR l = normL s := by
  have h1 := norm_spec hp h.sorted
  rw [ord_chkN h] at h1
  exact ⟨h1.1.symm, (h1.2 h1.1.symm).symm⟩
theorem part_in {f t : Int} {e : Ext} (hp : partB f t e = true) : e.lo ≤ (partE f t e).lo ∧ f ≤ (partE f t e).lo ∧ endI (partE f t e) ≤ endI e ∧ endI (partE f t e) ≤ t := by
  rw [partE_yes hp]; unfold endI; dsimp only; omega
theorem runs_mem {f t : Int} {l : List Ext} {x : Ext} (h : x ∈ runsL f t l) : ∃ e ∈ l, partB f t e = true ∧ x = partE f t e := by
  unfold runsL at h
  obtain ⟨e, he, rfl⟩ := List.mem_map.1 h
  rw [List.mem_filter] at he
  exact ⟨e, he.1, he.2, rfl⟩
theorem Ord.runs {l : List Ext} (h : Ord l) (f t : Int) : Ord (runsL f t l) := by
  refine ⟨fun x hx => ?_, ?_⟩
  · obtain ⟨e, he, hp, rfl⟩ := runs_mem hx
    exact part_one (h.one e he) hp
  · unfold runsL
    rw [List.pairwise_map]
    refine (List.pairwise_iff_forall_sublist.2 ?_)
    intro a b hs
    have ha := (List.mem_filter.1 (hs.subset (show a ∈ [a, b] by simp))).2
    have hb := (List.mem_filter.1 (hs.subset (show b ∈ [a, b] by simp))).2
    have hp := List.pairwise_iff_forall_sublist.1 h.pw (hs.trans List.filter_sublist)
    have := part_in ha
    have := part_in hb
    omega
/-- What is left of a list without the blocks from f to ahead of t. -/
def leftL (f t : Int) (l : List Ext) : List Ext := runsL 0 f l ++ runsL t 65536 l
theorem Ord.left {l : List Ext} (h : Ord l) {f t : Int} (hft : f ≤ t) : Ord (leftL f t l) := by
  refine ⟨fun x hx => ?_, List.pairwise_append.2 ⟨(h.runs 0 f).pw, (h.runs t 65536).pw, fun a ha b hb => ?_⟩⟩
  · rcases List.mem_append.1 hx with hx | hx
    · exact (h.runs 0 f).one x hx
    · exact (h.runs t 65536).one x hx
  · obtain ⟨e, _, hp, rfl⟩ := runs_mem ha
    obtain ⟨e', _, hp', rfl⟩ := runs_mem hb
    have := part_in hp
    have := part_in hp'
    omega
/-- The form of a list in order. -/
theorem normStep_ord {o : List Ext} {e : Ext} (h : Ord o) (he : oneB e = true) (hb : ∀ x ∈ o, endI x ≤ e.lo) : Ord (normStep o e) ∧ (∀ x ∈ normStep o e, endI x ≤ endI e) ∧ (∀ x ∈ normStep o e, ∀ b, x.lo ≤ b → b < endI x → (∃ y ∈ o, y.lo ≤ b ∧ b < endI y) ∨ (e.lo ≤ b ∧ b < endI e)) := by
  have hpos := one_pos he
  rcases List.eq_nil_or_concat o with rfl | ⟨o', x, rfl⟩
  · refine ⟨⟨fun y hy => ?_, List.pairwise_singleton _ _⟩, fun y hy => ?_, fun y hy b h1 h2 => ?_⟩
    · rw [List.mem_singleton.1 hy]; exact he
    · rw [List.mem_singleton.1 hy]; exact Int.le_refl _
    · rw [List.mem_singleton.1 hy] at h1 h2; exact .inr ⟨h1, h2⟩
  · rw [List.concat_eq_append] at *
    have hx := h.one x (List.mem_append.2 (.inr (List.mem_singleton.2 rfl)))
    have hxe := hb x (List.mem_append.2 (.inr (List.mem_singleton.2 rfl)))
    have hpw := List.pairwise_append.1 h.pw
    cases hg : goB x e with
    | true =>
      rw [normStep_go hg]
      rw [goB_iff] at hg
      have hy0 : endI (⟨x.lo, x.ln + e.ln, x.ph⟩ : Ext) = endI e := by unfold endI; dsimp only; omega
      refine ⟨⟨fun y hy => ?_, List.pairwise_append.2 ⟨hpw.1, List.pairwise_singleton _ _, fun a ha b hb => ?_⟩⟩, fun y hy => ?_, fun y hy b h1 h2 => ?_⟩
      · rcases List.mem_append.1 hy with hy | hy
        · exact h.one y (List.mem_append.2 (.inl hy))
        · rw [List.mem_singleton.1 hy]; rw [oneB_iff] at *; dsimp only; omega
      · rw [List.mem_singleton.1 hb]
        exact hpw.2.2 a ha x (List.mem_singleton.2 rfl)
      · rcases List.mem_append.1 hy with hy | hy
        · have := hb y (List.mem_append.2 (.inl hy)); omega
        · rw [List.mem_singleton.1 hy, hy0]; exact Int.le_refl _
      · rcases List.mem_append.1 hy with hy | hy
        · exact .inl ⟨y, List.mem_append.2 (.inl hy), h1, h2⟩
        · rw [List.mem_singleton.1 hy] at h1 h2
          rw [hy0] at h2
          dsimp only at h1
          by_cases hc : b < endI x
          · exact .inl ⟨x, List.mem_append.2 (.inr (List.mem_singleton.2 rfl)), h1, hc⟩
          · refine .inr ⟨?_, h2⟩
            unfold endI at hc; omega
    | false =>
      rw [normStep_own hg]
      refine ⟨⟨fun y hy => ?_, List.pairwise_append.2 ⟨h.pw, List.pairwise_singleton _ _, fun a ha b hb' => ?_⟩⟩, fun y hy => ?_, fun y hy b h1 h2 => ?_⟩
      · rcases List.mem_append.1 hy with hy | hy
        · exact h.one y hy
        · rw [List.mem_singleton.1 hy]; exact he
      · rw [List.mem_singleton.1 hb']; exact hb a ha
      · rcases List.mem_append.1 hy with hy | hy
        · have := hb y hy; omega
        · rw [List.mem_singleton.1 hy]; exact Int.le_refl _
      · rcases List.mem_append.1 hy with hy | hy
        · exact .inl ⟨y, hy, h1, h2⟩
        · rw [List.mem_singleton.1 hy] at h1 h2; exact .inr ⟨h1, h2⟩
theorem ord_snoc {s : List Ext} {e : Ext} (h : Ord (s ++ [e])) : Ord s ∧ oneB e = true ∧ ∀ x ∈ s, endI x ≤ e.lo := by
  have hpw := List.pairwise_append.1 h.pw
  exact ⟨⟨fun x hx => h.one x (List.mem_append.2 (.inl hx)), hpw.1⟩, h.one e (List.mem_append.2 (.inr (List.mem_singleton.2 rfl))), fun x hx => hpw.2.2 x hx e (List.mem_singleton.2 rfl)⟩
theorem snoc_ind {P : List Ext → Prop} (h0 : P []) (h1 : ∀ s e, P s → P (s ++ [e])) (s : List Ext) : P s := by
  rw [← List.reverse_reverse s]
  induction s.reverse with
  | nil => exact h0
  | cons x l ih => rw [List.reverse_cons]; exact h1 _ _ ih
def NormK (s : List Ext) : Prop := Ord (normL s) ∧ (∀ c, (∀ x ∈ s, endI x ≤ c) → ∀ x ∈ normL s, endI x ≤ c) ∧ (∀ x ∈ normL s, ∀ b, x.lo ≤ b → b < endI x → ∃ y ∈ s, y.lo ≤ b ∧ b < endI y)
theorem normL_ord (s : List Ext) : Ord s → NormK s := by
  refine snoc_ind (P := fun s => Ord s → NormK s) ?_ ?_ s
  · intro _
    exact ⟨⟨fun x hx => absurd hx List.not_mem_nil, List.Pairwise.nil⟩, fun c _ x hx => absurd hx List.not_mem_nil, fun x hx => absurd hx List.not_mem_nil⟩
  · intro s e ih h
    obtain ⟨h1, h2, h3⟩ := ord_snoc h
    obtain ⟨a, b, c⟩ := ih h1
    unfold NormK
    rw [normL_snoc]
    obtain ⟨p, q, r⟩ := normStep_ord a h2 (b e.lo h3)
    refine ⟨p, fun d hd x hx => ?_, fun x hx b' hb1 hb2 => ?_⟩
    · have := q x hx
      have := hd e (List.mem_append.2 (.inr (List.mem_singleton.2 rfl)))
      omega
    · rcases r x hx b' hb1 hb2 with ⟨y, hy, hy1, hy2⟩ | hy
      · obtain ⟨z, hz, hz1, hz2⟩ := c y hy b' hy1 hy2
        exact ⟨z, List.mem_append.2 (.inl hz), hz1, hz2⟩
      · exact ⟨e, List.mem_append.2 (.inr (List.mem_singleton.2 rfl)), hy.1, hy.2⟩
/-- Apart in the file. -/
def dis (a b : Ext) : Prop := endI a ≤ b.lo ∨ endI b ≤ a.lo
theorem Ord.dis {s : List Ext} (h : Ord s) : s.Pairwise dis := h.pw.imp (fun h => .inl h)
theorem ord_of_dis {s : List Ext} (h1 : ∀ e ∈ s, oneB e = true) (h2 : s.Pairwise dis) (h3 : s.Pairwise (fun a b => a.lo ≤ b.lo)) : Ord s := by
  refine ⟨h1, List.pairwise_iff_forall_sublist.2 ?_⟩
  intro a b hs
  have e1 := List.pairwise_iff_forall_sublist.1 h2 hs
  have e2 := List.pairwise_iff_forall_sublist.1 h3 hs
  have := one_pos (h1 b (hs.subset (by simp)))
  rcases e1 with e1 | e1
  · exact e1
  · omega
/-- Which extents may be normed. -/
theorem okR_iff {l : List Ext} : okR l = true ↔ (∀ e ∈ l, oneB e = true) ∧ l.Pairwise dis := by
  have hsym : ∀ {x y : Ext}, _root_.Go.Proofs.Ytmboohadindlfaa.dis x y → _root_.Go.Proofs.Ytmboohadindlfaa.dis y x := fun h => h.symm
  constructor
  · intro h
    have ho := chkN_ord h
    exact ⟨fun e he => ho.one e ((srt_perm l).mem_iff.2 he), ((srt_perm l).pairwise_iff hsym).1 ho.dis⟩
  · rintro ⟨h1, h2⟩
    exact ord_chkN (ord_of_dis (fun e he => h1 e ((srt_perm l).mem_iff.1 he)) (((srt_perm l).pairwise_iff hsym).2 h2) (srt_sorted l))
/-- What is left and the extent that is put may be normed. -/
theorem put_ok {l : List Ext} {e : Ext} (h : Ord l) (he : oneB e = true) : okR (normL (leftL e.lo (endI e) l) ++ [e]) = true := by
  have hpos := one_pos he
  have hl := h.left (f := e.lo) (t := endI e) (by omega)
  obtain ⟨a, _, c⟩ := normL_ord _ hl
  rw [okR_iff]
  refine ⟨fun x hx => ?_, List.pairwise_append.2 ⟨a.dis, List.pairwise_singleton _ _, fun x hx y hy => ?_⟩⟩
  · rcases List.mem_append.1 hx with hx | hx
    · exact a.one x hx
    · rw [List.mem_singleton.1 hx]; exact he
  · rw [List.mem_singleton.1 hy]
    have hxp := one_pos (a.one x hx)
    have key : ∀ b, x.lo ≤ b → b < endI x → e.lo ≤ b → b < endI e → False := fun b h1 h2 h3 h4 => by
      obtain ⟨z, hz, hz1, hz2⟩ := c x hx b h1 h2
      rcases List.mem_append.1 hz with hz | hz
      · obtain ⟨e', _, hp, rfl⟩ := runs_mem hz
        have := part_in hp; omega
      · obtain ⟨e', _, hp, rfl⟩ := runs_mem hz
        have := part_in hp; omega
    unfold _root_.Go.Proofs.Ytmboohadindlfaa.dis
    by_cases h1 : x.lo ≤ e.lo
    · by_cases h2 : e.lo < endI x
      · exact (key e.lo h1 h2 (Int.le_refl _) hpos).elim
      · left; omega
    · by_cases h2 : x.lo < endI e
      · exact (key x.lo (Int.le_refl _) hxp (by omega) h2).elim
      · right; omega
end Go.Proofs.Ytmboohadindlfaa
