/-
  The plain heart of P4.6: blocks that are chosen by the least wear and given back ahead of the next choice are worn alike.
-/
import Derived.Test.YtigkfmdhmonjlaaPoBegun
import Derived.Test.YtigkfmdhmonjlaaPoGive
import Derived.Test.YtigkfmdhmonjlaaPoSpread
import Derived.Test.YtigkfmdhmonjlaaPoCount
namespace Go.Proofs.Ytigkfmdhmonjlaa
open Go.RowKit
theorem eI_set {xs : List Int} {b : Nat} (hb : b < xs.length) (x : Int) (i : Nat) : eI (xs.set b x) i = if i = b then x else eI xs i := by
  unfold eI
  rw [List.getD_eq_getElem?_getD, List.getD_eq_getElem?_getD, List.getElem?_set]
  by_cases h : b = i
  · subst h; simp [hb]
  · have : ¬ i = b := fun e => h e.symm
    simp [h, this]
/-- A choice is one of those that came, and none of them is worn less. -/
def PickOk {N : Nat} (W : List Int) (ks : List (IdxT N)) : Option (IdxT N) → Prop
  | none => ks = []
  | some b => b ∈ ks ∧ ∀ k ∈ ks, eI W b.1 ≤ eI W k.1
theorem pick_fold {N : Nat} (W : List Int) : ∀ (ks pre : List (IdxT N)) (o : Option (IdxT N)), PickOk W pre o → PickOk W (pre ++ ks) (ks.foldl (pickStep isLess W) o)
  | [], pre, o, h => by simpa using h
  | k :: r, pre, o, h => by
    rw [List.foldl_cons, show pre ++ k :: r = (pre ++ [k]) ++ r from by simp]
    refine pick_fold W r (pre ++ [k]) _ ?_
    cases o with
    | none =>
      have : pre = [] := h
      subst this
      exact ⟨by simp, fun x hx => by simp at hx; subst hx; exact Int.le_refl _⟩
    | some b =>
      obtain ⟨hb, hm⟩ := h
      unfold pickStep isLess
      simp only
      by_cases hl : eI W k.1 < eI W b.1
      · rw [decide_eq_true hl]
        refine ⟨by simp, fun x hx => ?_⟩
        rcases List.mem_append.1 hx with hx | hx
        · have := hm x hx; omega
        · simp at hx; subst hx; exact Int.le_refl _
      · rw [decide_eq_false hl]
        refine ⟨by simp [hb], fun x hx => ?_⟩
        rcases List.mem_append.1 hx with hx | hx
        · exact hm x hx
        · simp at hx; subst hx; omega
theorem pick_ok {N : Nat} (W : List Int) (ks : List (IdxT N)) : PickOk W ks (pickK isLess W ks) := pick_fold W ks [] none rfl
theorem mem_allK {R W : List Int} {role : Int} (h : okPool R W = true) (k : IdxT (min R.length W.length)) : k ∈ allK R W role ↔ eI R k.1 = role := by
  have e := allK_ok (role := role) h
  constructor
  · intro hk
    have : k.1 ∈ idxTo R role R.length := by rw [← e]; exact List.mem_map.2 ⟨k, hk, rfl⟩
    simp [idxTo] at this
    exact this.2
  · intro hk
    have hlt := k.2
    have : k.1 ∈ (allK R W role).map (fun k => k.1) := by
      rw [e]; simp [idxTo, hk]; omega
    obtain ⟨k', hk', hk2⟩ := List.mem_map.1 this
    have : k' = k := Subtype.ext hk2
    exact this ▸ hk'
/-- What holds behind t turns. -/
structure FairI (n t : Nat) (R W : List Int) : Prop where
  lr : R.length = n
  lw : W.length = n
  n1 : 16 ≤ n
  n2 : n ≤ 256
  ro : ∀ i, i < n → eI R i = 1 ∨ eI R i = 6
  we : ∀ i, i < n → 0 ≤ eI W i ∧ eI W i ≤ (t : Int)
  al : ∃ v : Int, ∀ i, i < n → eI R i = 1 → v ≤ eI W i ∧ eI W i ≤ v + 1
theorem FairI.ok {n t : Nat} {R W : List Int} (h : FairI n t R W) (ht : t ≤ 1000000) : okPool R W = true :=
  okPool_iff.2 ⟨⟨by rw [h.lr, h.lw], by rw [h.lr]; exact h.n1, by rw [h.lr]; exact h.n2⟩, eI_all.2 fun j hj => okR_iff.2 (by have := h.ro j (by rw [← h.lr]; exact hj); omega), eI_all.2 fun j hj => okWear_iff.2 (by have := h.we j (by rw [← h.lw]; exact hj); omega)⟩
/-- The pool behind one turn more. -/
theorem FairI.step {n t : Nat} {R W : List Int} (h : FairI n t R W) (ht : t ≤ 1000) {b : IdxT (min R.length W.length)} (hb : pickK isLess W (allK R W 1) = some b) :
    takeS R W (b.1 : Int) 4 = (R.set b.1 4, W, 0) ∧ giveS (R.set b.1 4) W (b.1 : Int) = (R, W.set b.1 (eI W b.1 + 1), 0) ∧ FairI n (t + 1) R (W.set b.1 (eI W b.1 + 1)) := by
  have hok := h.ok (by omega)
  have hp := pick_ok W (allK R W 1)
  rw [hb] at hp
  have hb1 : eI R b.1 = 1 := (mem_allK hok b).1 hp.1
  have hmin : ∀ i, i < n → eI R i = 1 → eI W b.1 ≤ eI W i := fun i hi hr => hp.2 ⟨i, by rw [h.lr, h.lw]; omega⟩ ((mem_allK hok _).2 hr)
  have hltR : b.1 < R.length := Nat.lt_of_lt_of_le b.2 (Nat.min_le_left _ _)
  have hltW : b.1 < W.length := Nat.lt_of_lt_of_le b.2 (Nat.min_le_right _ _)
  have hlt : b.1 < n := Nat.lt_of_lt_of_le hltR (Nat.le_of_eq h.lr)
  have hwb := h.we b.1 hlt
  generalize b.1 = k at *
  have hre : reachE R W (k : Int) = 0 := reachE_of hok (isB_iff.2 ⟨by omega, by rw [h.lr]; omega⟩)
  have hok4 : okPool (R.set k 4) W = true := by
    obtain ⟨⟨h1, h2, h3⟩, h4, h5⟩ := okPool_iff.1 hok
    refine okPool_iff.2 ⟨⟨by rw [List.length_set]; exact h1, by rw [List.length_set]; exact h2, by rw [List.length_set]; exact h3⟩, eI_all.2 fun j hj => ?_, h5⟩
    rw [List.length_set] at hj
    rw [eI_set hltR]
    split
    · rfl
    · exact eI_all.1 h4 j hj
  have hre4 : reachE (R.set k 4) W (k : Int) = 0 := reachE_of hok4 (isB_iff.2 ⟨by omega, by rw [List.length_set, h.lr]; omega⟩)
  have e4 : eI (R.set k 4) k = 4 := by rw [eI_set hltR, if_pos rfl]
  refine ⟨?_, ?_, h.lr, by rw [List.length_set]; exact h.lw, h.n1, h.n2, h.ro, fun i hi => ?_, ?_⟩
  · unfold takeS; rw [if_pos hre, Int.toNat_natCast, hb1]; rfl
  · unfold giveS
    rw [if_pos hre4, Int.toNat_natCast, e4, if_pos (show okUse 4 = true from rfl), Int.min_eq_left (by omega), List.set_set, show R.set k 1 = R.set k (eI R k) from by rw [hb1], set_same]
  · rw [eI_set hltW]
    split
    · omega
    · have := h.we i hi; omega
  · obtain ⟨v, hv⟩ := h.al
    have hvb := hv k hlt hb1
    by_cases hvk : eI W k = v
    · refine ⟨v, fun i hi hr => ?_⟩
      have := hv i hi hr
      rw [eI_set hltW]
      split <;> omega
    · refine ⟨v + 1, fun i hi hr => ?_⟩
      have h1 := hv i hi hr
      have h2 := hmin i hi hr
      rw [eI_set hltW]
      split <;> omega
theorem badTo_roles : ∀ (bad R R' : List Int), (∀ i, i < R.length → eI R i = 1 ∨ eI R i = 6) → badTo R bad = some R' → R'.length = R.length ∧ ∀ i, i < R'.length → eI R' i = 1 ∨ eI R' i = 6
  | [], R, R', h, e => by simp [badTo] at e; subst e; exact ⟨rfl, h⟩
  | b :: r, R, R', h, e => by
    unfold badTo at e
    split at e
    · rename_i hc
      simp only [Bool.and_eq_true] at hc
      have hb := isB_iff.1 hc.1
      have hlt : b.toNat < R.length := by omega
      obtain ⟨h1, h2⟩ := badTo_roles r (R.set b.toNat 6) R' (fun i hi => by
        rw [eI_set hlt]
        rw [List.length_set] at hi
        split
        · exact .inr rfl
        · exact h i hi) e
      rw [List.length_set] at h1
      exact ⟨h1, h2⟩
    · cases e
theorem fair_start {blocks : Int} {bad R W : List Int} (h : newS blocks bad = (R, W, 0)) : ∃ n, FairI n 0 R W := by
  unfold newS at h
  split at h
  · rename_i hb
    have hr := badTo_roles bad (List.replicate blocks.toNat 1)
    generalize badTo (List.replicate blocks.toNat 1) bad = o at h hr
    cases o with
    | none => simp at h
    | some R' =>
      simp only [Prod.mk.injEq, and_true] at h
      obtain ⟨rfl, rfl⟩ := h
      obtain ⟨h1, h2⟩ := hr R' (fun i hi => by simp at hi; left; simp [eI, hi]) rfl
      rw [List.length_replicate] at h1
      have hz : ∀ i, eI (List.replicate blocks.toNat 0) i = 0 := fun i => by
        unfold eI
        rw [List.getD_eq_getElem?_getD, List.getElem?_replicate]
        split <;> rfl
      refine ⟨blocks.toNat, h1, by simp, by omega, by omega, fun i hi => h2 i (by omega), fun i _ => by rw [hz]; omega, 0, fun i _ _ => by rw [hz]; omega⟩
  · simp at h
theorem minFold_mem (r : List Int) : ∀ x : Int, r.foldl minStep x = x ∨ r.foldl minStep x ∈ r := by
  induction r with
  | nil => intro x; exact .inl rfl
  | cons y r ih =>
    intro x
    rw [List.foldl_cons]
    by_cases h : y < x
    · rw [show minStep x y = y from if_pos h]
      rcases ih y with e | e
      · right; rw [e]; simp
      · exact .inr (List.mem_cons_of_mem _ e)
    · rw [show minStep x y = x from if_neg h]
      rcases ih x with e | e
      · exact .inl e
      · exact .inr (List.mem_cons_of_mem _ e)
theorem maxFold_mem (r : List Int) : ∀ x : Int, r.foldl maxStep x = x ∨ r.foldl maxStep x ∈ r := by
  induction r with
  | nil => intro x; exact .inl rfl
  | cons y r ih =>
    intro x
    rw [List.foldl_cons]
    by_cases h : x < y
    · rw [show maxStep x y = y from if_pos h]
      rcases ih y with e | e
      · right; rw [e]; simp
      · exact .inr (List.mem_cons_of_mem _ e)
    · rw [show maxStep x y = x from if_neg h]
      rcases ih x with e | e
      · exact .inl e
      · exact .inr (List.mem_cons_of_mem _ e)
theorem minL_mem {l : List Int} (h : l ≠ []) : minL l ∈ l := by
  cases l with
  | nil => exact absurd rfl h
  | cons x r =>
    rcases minFold_mem r x with e | e
    · show List.foldl minStep x r ∈ x :: r; rw [e]; simp
    · exact List.mem_cons_of_mem _ e
theorem maxL_mem {l : List Int} (h : l ≠ []) : maxL l ∈ l := by
  cases l with
  | nil => exact absurd rfl h
  | cons x r =>
    rcases maxFold_mem r x with e | e
    · show List.foldl maxStep x r ∈ x :: r; rw [e]; simp
    · exact List.mem_cons_of_mem _ e
theorem FairI.spread {n t : Nat} {R W : List Int} (h : FairI n t R W) (ht : t ≤ 1000) : spreadB R W - spreadA R W ≤ 1 ∧ (0 ≤ spreadA R W ∧ spreadA R W ≤ 1000) ∧ 0 ≤ spreadB R W ∧ spreadB R W ≤ 1000 := by
  have hok := h.ok (by omega)
  unfold spreadA spreadB
  rw [hok]
  simp only [if_true]
  by_cases he : goodW R W R.length = []
  · rw [he]; simp [minL, maxL]
  · have h1 := minL_mem he
    have h2 := maxL_mem he
    obtain ⟨v, hv⟩ := h.al
    have key : ∀ x ∈ goodW R W R.length, (v ≤ x ∧ x ≤ v + 1) ∧ 0 ≤ x ∧ x ≤ (t : Int) := by
      intro x hx
      unfold goodW at hx
      obtain ⟨i, hi, rfl⟩ := List.mem_map.1 hx
      simp at hi
      have hin : i < n := by rw [← h.lr]; exact hi.1
      have hr : eI R i = 1 := (h.ro i hin).resolve_right hi.2
      exact ⟨hv i hin hr, h.we i hin⟩
    have k1 := key _ h1
    have k2 := key _ h2
    omega
end Go.Proofs.Ytigkfmdhmonjlaa
