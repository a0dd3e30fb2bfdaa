/-
  What a table that may be holds.
-/
import Derived.Test.YthibaefoioeghaaPlFit
namespace Go.Proofs.Ythibaefoioeghaa
open Go.RowKit
/-- What is known of a table that may be. -/
structure OkF (V : TabV) (T : Tab) (P L : Nat) : Prop where
  pg : T.pages = (P : Int)
  p0 : 4 ≤ P ∧ P ≤ 32
  lg : T.logical = (L : Int)
  l0 : 1 ≤ L ∧ L ≤ 256
  nd : V.nd = L
  nh : V.nh = L * P
  nl : V.nl ≤ 8
  po : PgOk T
  len : ∀ (i : Nat) (l : LogS), T.logs[i]? = some l → l.pages.length ≤ P
theorem okT_facts {w : World} {V : TabV} {T : Tab} (hok : okT T = true) (h : TabIn w V T) : ∃ P L : Nat, OkF V T P L := by
  obtain ⟨⟨r1, r2, r3⟩, s1, s2, s3⟩ := okShape_iff.1 (okT_shape hok)
  obtain ⟨P, hP⟩ : ∃ P : Nat, T.pages = (P : Int) := ⟨T.pages.toNat, by omega⟩
  obtain ⟨L, hL⟩ : ∃ L : Nat, T.logical = (L : Int) := ⟨T.logical.toNat, by omega⟩
  have hok2 := hok
  unfold okT at hok2
  simp only [Bool.and_eq_true] at hok2
  have hlg := hok2.2.2
  rw [hP, Int.toNat_natCast] at hlg
  unfold okLogs at hlg
  rw [Bool.and_eq_true] at hlg
  have hone := okAll_iff.1 hlg.1
  have hprod := prod_bound r2 r1
  rw [h.data.len] at s1
  rw [h.have'.len, hL, hP, ← Int.natCast_mul] at s2
  rw [h.logs.len] at s3
  refine ⟨P, L, hP, by omega, hL, by omega, by omega, Int.ofNat_inj.1 s2, by omega, fun n l hl i hi => ?_, fun i l hl => ?_⟩
  · have h1 := hone n l hl
    unfold okOne at h1
    rw [Bool.and_eq_true] at h1
    have h2 := eI_all.1 h1.2 i hi
    rw [Bool.or_eq_true] at h2
    rcases h2 with h2 | h2
    · exact .inl (by simpa using h2)
    · unfold hasPg at h2
      simp only [Bool.and_eq_true, decide_eq_true_eq] at h2
      exact .inr (by omega)
  · have h1 := hone i l hl
    unfold okOne at h1
    simp only [Bool.and_eq_true, decide_eq_true_eq] at h1
    exact h1.1.1
theorem okT_new : okT (newT 4 1 1 4) = true := by
  have h1 : okShape (newT 4 1 1 4) = true := by decide
  have h2 : okBlocks (newT 4 1 1 4) = true := by
    have e : blocksL (newT 4 1 1 4) = [] := by decide
    unfold okBlocks okBl
    rw [e]
    simp [twice]
  have h3 : okHv (newT 4 1 1 4).pages.toNat (newT 4 1 1 4).data (newT 4 1 1 4).have' = true := by decide
  have h4 : okSeq (newT 4 1 1 4) = true := by decide
  have h5 : okLogs (newT 4 1 1 4) (newT 4 1 1 4).pages.toNat = true := by
    have e : flatTo (newT 4 1 1 4).logs (newT 4 1 1 4).logs.length = [] := by decide
    have e2 : okAll (newT 4 1 1 4) (newT 4 1 1 4).pages.toNat = true := by decide
    unfold okLogs
    rw [e, e2]
    simp [twice]
  unfold okT
  rw [h1, h2, h3, h4, h5]
  rfl
theorem okT_fit (T : Tab) : okT (fitT T) = true := by
  unfold fitT
  split
  · assumption
  · exact okT_new
end Go.Proofs.Ythibaefoioeghaa
