/-
  P9.1 to P9.4 in plain words: both disks beside each other, whatever is done with them.
-/
import Derived.Test.YtbnnekpglnnneaaDkLogs2
import Derived.Test.YtbnnekpglnnneaaDkPreP
namespace Go.Proofs.Ytbnnekpglnnneaa
open Go.RowKit
structure DRel (s : DS) (t : RS) : Prop where
  secs : t.secs = s.secs.map (·.1)
  bad : t.bad = s.secs.map (·.2)
  on : t.gone = !s.on
  cutT : t.cut = true → s.left = t.left
  cutF : t.cut = false → s.left < 0
  w : t.many = s.writes
  log : t.wrote = wroteOf s.log
theorem DRel.len {s : DS} {t : RS} (h : DRel s t) : t.secs.length = s.secs.length := by rw [h.secs, List.length_map]
theorem DRel.start (n : Nat) : DRel (newD n) (newR n) := ⟨by simp [newD, newR], by simp [newD, newR], rfl, fun h => by simp [newR] at h, fun _ => by simp [newD], rfl, by simp [newD, newR, wroteOf]⟩
theorem DRel.room {s : DS} {t : RS} (h : DRel s t) (cap : Nat) (sp : List Value) : DRel { s with cap := cap, sp := sp } t := ⟨h.secs, h.bad, h.on, h.cutT, h.cutF, h.w, h.log⟩
theorem DRel.power {s : DS} {t : RS} (h : DRel s t) : powE (!t.gone) = powE s.on := by rw [h.on, Bool.not_not]
theorem DRel.write {s : DS} {t : RS} (h : DRel s t) (hlc : t.cut = true → 0 ≤ t.left) (i : Int) (xs : List Nat) : rwE t i xs.length = writeE s i xs.length ∧ DRel (writeS s i xs) (rwS t i xs) := by
  have hlen := h.len
  have hc0 : (t.cut = true ∧ t.left = 0) ↔ s.left = 0 := by
    constructor
    · rintro ⟨a, b⟩; rw [h.cutT a]; exact b
    · intro e
      cases hc : t.cut
      · have := h.cutF hc; omega
      · exact ⟨rfl, by rw [← h.cutT hc]; exact e⟩
  have hon := h.on
  cases ho : s.on
  · rw [ho] at hon
    have hg : t.gone = true := hon
    simp only [rwE, writeE, writeS, rwS, ho, hg, if_pos]
    exact ⟨trivial, h⟩
  · rw [ho] at hon
    have hg : t.gone = false := hon
    by_cases hb : hasB s.secs.length i = false ∨ xs.length ≠ 256
    · have hb' : hasB t.secs.length i = false ∨ xs.length ≠ 256 := by rw [hlen]; exact hb
      simp only [rwE, writeE, writeS, rwS, ho, hg, if_pos hb, if_pos hb', Bool.true_eq_false, Bool.false_eq_true, if_false]
      exact ⟨trivial, h⟩
    · have hb' : ¬ (hasB t.secs.length i = false ∨ xs.length ≠ 256) := by rw [hlen]; exact hb
      by_cases h0 : s.left = 0
      · have h0' := hc0.2 h0
        simp only [rwE, writeE, writeS, rwS, ho, hg, if_neg hb, if_neg hb', Bool.true_eq_false, Bool.false_eq_true, if_false, if_pos h0, if_pos h0']
        exact ⟨trivial, h.secs, h.bad, rfl, h.cutT, h.cutF, h.w, h.log⟩
      · have h0' : ¬ (t.cut = true ∧ t.left = 0) := fun e => h0 (hc0.1 e)
        simp only [rwE, writeE, writeS, rwS, ho, hg, if_neg hb, if_neg hb', Bool.true_eq_false, Bool.false_eq_true, if_false, if_neg h0, if_neg h0']
        have hi : ∃ k : Nat, i = (k : Int) ∧ k < s.secs.length := hasB_nat (by
          cases hh : hasB s.secs.length i
          · exact absurd (.inl hh) hb
          · rfl)
        obtain ⟨k, rfl, hk⟩ := hi
        rw [Int.toNat_natCast]
        refine ⟨trivial, ?_, ?_, ?_, fun hc => ?_, fun hc => ?_, ?_, ?_⟩
        · show t.secs.set k xs = (s.secs.set k (xs, false)).map (·.1)
          rw [List.map_set, h.secs]
        · show t.bad.set k false = (s.secs.set k (xs, false)).map (·.2)
          rw [List.map_set, h.bad]
        · rfl
        · have hc' : t.cut = true := hc
          show lessL s.left = if t.cut = true then t.left - 1 else t.left
          have := h.cutT hc'
          have := hlc hc'
          rw [if_pos hc', lessL, if_pos (by omega)]; omega
        · have := h.cutF hc
          show lessL s.left < 0
          rw [lessL, if_neg (by omega)]; exact this
        · show t.many + 1 = s.writes + 1
          rw [h.w]
        · show t.wrote ++ [((k : Int), xs)] = wroteOf (s.log ++ [(k, xs)])
          rw [h.log, wroteOf, wroteOf, List.map_append]; rfl
theorem DRel.read {s : DS} {t : RS} (h : DRel s t) (i : Int) : rrE t i = readE s i ∧ rrD t i = readD s i := by
  have hlen := h.len
  have e2 : t.bad.getD i.toNat false = (s.secs.getD i.toNat ([], false)).2 := by
    rw [h.bad, List.getD_eq_getElem?_getD, List.getD_eq_getElem?_getD, List.getElem?_map]
    cases s.secs[i.toNat]? <;> rfl
  have e3 : t.secs.getD i.toNat [] = (s.secs.getD i.toNat ([], false)).1 := by
    rw [h.secs, List.getD_eq_getElem?_getD, List.getD_eq_getElem?_getD, List.getElem?_map]
    cases s.secs[i.toNat]? <;> rfl
  have e1 : rrE t i = readE s i := by
    unfold rrE readE
    rw [e2, hlen, h.on]
    cases s.on <;> rfl
  exact ⟨e1, by rw [rrD, readD, e1, e3]⟩
theorem DRel.images {s : DS} {t : RS} (h : DRel s t) : rimgE t = imgE s ∧ rimgD t = imgD s := by
  have e : rrL t t.secs.length = rdL s s.secs.length := by
    rw [rrL, rdL, h.len]
    apply List.map_congr_left
    intro i _
    rw [(h.read (i : Int)).1, (h.read (i : Int)).2]
  exact ⟨by rw [rimgE, imgE, e], by rw [rimgD, imgD, e]⟩
theorem DRel.hurt {s : DS} {t : RS} (h : DRel s t) (i : Int) : hurtE t.secs.length i = hurtE s.secs.length i ∧ DRel (hurtS s i) (hurtR t i) := by
  refine ⟨by rw [h.len], ?_⟩
  unfold hurtS hurtR
  rw [h.len]
  by_cases hb : hasB s.secs.length i = true
  · rw [if_pos hb, if_pos hb]
    obtain ⟨k, rfl, hk⟩ := hasB_nat hb
    rw [Int.toNat_natCast]
    refine ⟨?_, ?_, h.on, h.cutT, h.cutF, h.w, h.log⟩
    · show t.secs = (s.secs.set k _).map (·.1)
      rw [List.map_set, h.secs]
      apply List.ext_getElem?
      intro j
      rw [List.getElem?_set]
      by_cases hj : k = j
      · subst hj
        simp [hk, List.getD_eq_getElem?_getD]
      · simp [hj]
    · show t.bad.set k true = (s.secs.set k _).map (·.2)
      rw [List.map_set, h.bad]
  · rw [if_neg hb, if_neg hb]; exact h
theorem DRel.cut {s : DS} {t : RS} (h : DRel s t) (i : Int) : DRel { s with left := i } (rcutS t i) := by
  refine ⟨h.secs, h.bad, h.on, fun hc => ?_, fun hc => ?_, h.w, h.log⟩
  · have hc' : 0 ≤ i := of_decide_eq_true hc
    show i = if 0 ≤ i then i else 0
    rw [if_pos hc']
  · have hc' : ¬ 0 ≤ i := of_decide_eq_false hc
    show i < 0
    omega
theorem DRel.restart {s : DS} {t : RS} (h : DRel s t) : DRel { s with on := true, left := -1 } { t with gone := false, cut := false } :=
  ⟨h.secs, h.bad, rfl, (fun hc => by cases hc), fun _ => by show (-1 : Int) < 0; omega, h.w, h.log⟩
end Go.Proofs.Ytbnnekpglnnneaa
