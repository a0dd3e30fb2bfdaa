/-
  The plain heart of the law: where pages stand behind a step.
-/
import Derived.Test.YthibaefoioeghaaPlLive
namespace Go.Proofs.Ythibaefoioeghaa
open Go.RowKit
theorem whereE_ok {T : Tab} (h : okT T = true) (n : Nat) : whereE T (n : Int) = if hasPg T (n : Int) then (if (whereP T T.pages.toNat n).1 = -1 then ((0, 0), false) else (whereP T T.pages.toNat n, true)) else ((0, 0), false) := by
  have hf : fitT T = T := by unfold fitT; rw [if_pos h]
  unfold whereE
  rw [hf, Int.toNat_natCast]
theorem others_of {T U : Tab} (hT : okT T = true) (hU : okT U = true) (hp : U.pages = T.pages) (hl : U.logical = T.logical) (n : Nat) (hw : whereP U T.pages.toNat n = whereP T T.pages.toNat n) : whereE T (n : Int) = whereE U (n : Int) := by
  have hh : hasPg U (n : Int) = hasPg T (n : Int) := by unfold hasPg; rw [hp, hl]
  rw [whereE_ok hT, whereE_ok hU, hh, hp, hw]
theorem put_heart {T : Tab} {kind page : Int} (h : putE T kind page = 0) :
    okT T = true ∧ hasPg T page = true ∧ okT (putT T kind page) = true ∧ (putT T kind page).pages = T.pages ∧ (putT T kind page).logical = T.logical ∧
    (∀ p : Nat, ¬ (page ≤ (p : Int) ∧ (p : Int) < page + 1) → whereE T (p : Int) = whereE (putT T kind page) (p : Int)) ∧ whereE (putT T kind page) page = (whereP (putT T kind page) T.pages.toNat page.toNat, true) := by
  have hre : reachE T page = 0 := by
    unfold putE at h
    by_cases h0 : reachE T page = 0
    · exact h0
    · rw [if_neg h0] at h; exact h
  obtain ⟨hok, hpg⟩ := reach_zero hre
  have hS := okT_iff.1 hok
  have hpp : 0 ≤ page := by
    have hpg' := hpg
    unfold hasPg at hpg'
    simp only [Bool.and_eq_true, decide_eq_true_eq] at hpg'
    exact hpg'.1
  obtain ⟨n, rfl⟩ : ∃ n : Nat, page = (n : Int) := ⟨page.toNat, by omega⟩
  have key : OkS (putT T kind (n : Int)) ∧ (∀ k : Nat, k ≠ n → whereP (putT T kind (n : Int)) T.pages.toNat k = whereP T T.pages.toNat k) ∧ (whereP (putT T kind (n : Int)) T.pages.toNat n).1 ≠ -1 ∧ (putT T kind (n : Int)).pages = T.pages ∧ (putT T kind (n : Int)).logical = T.logical := by
    unfold putE at h
    rw [if_pos hre, Int.toNat_natCast] at h
    by_cases h1 : kind = 1 ∧ isNextP T T.pages.toNat n = true
    · obtain ⟨rfl, hn⟩ := h1
      obtain ⟨a, b, c, d⟩ := putSq_where hS hn
      exact ⟨a, b, by show (whereP (putSq T n) T.pages.toNat n).1 ≠ -1; rw [c]; exact d, rfl, rfl⟩
    · rw [if_neg h1] at h
      by_cases h2 : kind = 2 ∧ room T = true
      · obtain ⟨rfl, hr⟩ := h2
        obtain ⟨a, b, c⟩ := putRn_where hS hpg hr
        exact ⟨a, b, c, rfl, rfl⟩
      · rw [if_neg h2] at h
        cases h
  obtain ⟨a, b, c, d, e⟩ := key
  have hU := okT_iff.2 a
  refine ⟨hok, hpg, hU, d, e, fun p hp => others_of hok hU d e p (b p (by omega)), ?_⟩
  have hh : hasPg (putT T kind (n : Int)) (n : Int) = true := by
    have : hasPg (putT T kind (n : Int)) (n : Int) = hasPg T (n : Int) := by unfold hasPg; rw [d, e]
    rw [this]; exact hpg
  rw [whereE_ok hU, hh, d, if_pos rfl, if_neg c, Int.toNat_natCast]
theorem open_heart {T : Tab} {kind blk phys : Int} (h : openE T kind blk phys = 0) (p : Nat) : whereE T (p : Int) = whereE (openT T kind blk phys) (p : Int) := by
  have hf : freshE T phys = 0 := by
    unfold openE at h
    by_cases h0 : freshE T phys = 0
    · exact h0
    · rw [if_neg h0] at h; exact h
  have hok := freshE_ok hf
  have hS := okT_iff.1 hok
  have hfr : (0 ≤ phys ∧ phys ≤ 255) ∧ phys ∉ blocksL T := by
    unfold freshE at hf
    rw [hok, if_pos rfl] at hf
    by_cases hc : (decide (0 ≤ phys) && decide (phys ≤ 255)) && !decide (phys ∈ blocksL T)
    · simp only [Bool.and_eq_true, decide_eq_true_eq, Bool.not_eq_true', decide_eq_false_iff_not] at hc
      exact hc
    · rw [if_neg hc] at hf; cases hf
  unfold openE at h
  rw [if_pos hf] at h
  by_cases h1 : kind = 3 ∧ hasBk T blk = true ∧ T.sp = -1
  · obtain ⟨rfl, hb, hs⟩ := h1
    obtain ⟨a, b⟩ := openSq_where hS hfr.1 hfr.2 hb hs
    exact others_of hok (okT_iff.2 a) rfl rfl p (b p)
  · rw [if_neg h1] at h
    by_cases h2 : kind = 4 ∧ (T.logs.length : Int) < T.k ∧ room T = false
    · obtain ⟨rfl, hk, hr⟩ := h2
      obtain ⟨a, b⟩ := openRn_where hS hfr.1 hfr.2 hk hr
      exact others_of hok (okT_iff.2 a) rfl rfl p (b p)
    · rw [if_neg h2] at h; cases h
theorem skip_heart {T : Tab} {kind : Int} (h : skipE T kind = 0) (p : Nat) : whereE T (p : Int) = whereE (addPg T (-1)) (p : Int) := by
  unfold skipE at h
  cases hok : okT T with
  | false => rw [hok] at h; simp at h
  | true =>
    rw [hok, if_pos rfl] at h
    by_cases h1 : kind = 2 ∧ room T = true
    · obtain ⟨a, b⟩ := skip_where (okT_iff.1 hok) h1.2
      exact others_of hok (okT_iff.2 a) rfl rfl p (b p)
    · rw [if_neg h1] at h; cases h
theorem drop_heart {T : Tab} (h : dropE T = 0) (p : Nat) : whereE T (p : Int) = whereE (dropT T) (p : Int) := by
  unfold dropE at h
  cases hok : okT T with
  | false => rw [hok] at h; simp at h
  | true =>
    rw [hok, if_pos rfl] at h
    by_cases h1 : mayP T T.pages.toNat 9 = true
    · obtain ⟨a, b⟩ := drop_where (okT_iff.1 hok) (may_drop h1).1
      exact others_of hok (okT_iff.2 a) rfl rfl p (b p)
    · rw [if_neg h1] at h; cases h
end Go.Proofs.Ythibaefoioeghaa
