/-
  The plain heart of P7.6: the table of what is settled may be, and says of each page that is not loose where the newest copy stands.
-/
import Derived.Test.YtfgelncfmopibabSnTabQ
import Derived.Test.YtfgelncfmopibabSqWhere
namespace Go.Proofs.Ytfgelncfmopibab
open Go.RowKit
theorem eB_set {l : List Bool} {i j : Nat} {x : Bool} : eB (l.set i x) j = if i = j ∧ i < l.length then x else eB l j := by
  unfold eB
  rw [List.getD_eq_getElem?_getD, List.getD_eq_getElem?_getD, List.getElem?_set]
  by_cases h : i = j
  · subst h
    by_cases h2 : i < l.length
    · simp [h2]
    · simp [h2]
  · simp [h]
theorem eI_set {l : List Int} {i j : Nat} {x : Int} : eI (l.set i x) j = if i = j ∧ i < l.length then x else eI l j := by
  unfold eI
  rw [List.getD_eq_getElem?_getD, List.getD_eq_getElem?_getD, List.getElem?_set]
  by_cases h : i = j
  · subst h
    by_cases h2 : i < l.length
    · simp [h2]
    · simp [h2]
  · simp [h]
theorem havTo_at {H : List Bool} {zs : List Pl} {a m j : Nat} (hj : j < H.length) : eB (havTo H zs a m) j = if a ≤ j ∧ j < a + m then isPl (eZ zs j) else eB H j := by
  induction m with
  | zero => rw [if_neg (by omega)]; rfl
  | succ m ih =>
    unfold havTo
    rw [eB_set, havTo_length, ih]
    by_cases h : a + m = j
    · subst h
      rw [if_pos ⟨rfl, hj⟩, if_pos (by omega)]
    · rw [if_neg (fun h' => h h'.1)]
      by_cases h2 : a ≤ j ∧ j < a + m
      · rw [if_pos h2, if_pos (by omega)]
      · rw [if_neg h2, if_neg (by omega)]
theorem tab_d {zs : List Pl} {P L n b : Nat} (hb : b < L) (k : Nat) : eI (tabTo zs P L n k).d b = if b < k ∧ (setR zs P b (b * P) n).2 = true then (setR zs P b (b * P) n).1 else -1 := by
  induction k with
  | zero =>
    rw [if_neg (by omega)]
    unfold tabTo eI
    rw [List.getD_eq_getElem?_getD, List.getElem?_replicate, if_pos hb]
    rfl
  | succ k ih =>
    have hl := tabTo_d zs P L n k
    unfold tabTo tabStep
    by_cases hs : (setR zs P k (k * P) n).2 = true
    · rw [if_pos hs]
      show eI ((tabTo zs P L n k).d.set k _) b = _
      rw [eI_set, ih]
      by_cases e : k = b
      · subst e
        rw [if_pos ⟨rfl, by omega⟩, if_pos ⟨by omega, hs⟩]
      · rw [if_neg (fun h => e h.1)]
        by_cases h2 : b < k ∧ (setR zs P b (b * P) n).2 = true
        · rw [if_pos h2, if_pos ⟨by omega, h2.2⟩]
        · rw [if_neg h2, if_neg (fun h => h2 ⟨by omega, h.2⟩)]
    · rw [if_neg hs]
      have e1 : eI (if someTo zs (k * P) P = true then (⟨(tabTo zs P L n k).d, (tabTo zs P L n k).h, (tabTo zs P L n k).l ++ [(k : Int)]⟩ : TT) else tabTo zs P L n k).d b = eI (tabTo zs P L n k).d b := by split <;> rfl
      rw [e1, ih]
      by_cases h2 : b < k ∧ (setR zs P b (b * P) n).2 = true
      · rw [if_pos h2, if_pos ⟨by omega, h2.2⟩]
      · rw [if_neg h2, if_neg (fun h => h2 ⟨by
          by_cases e : b = k
          · subst e; exact absurd h.2 hs
          · omega, h.2⟩)]
theorem tab_h {zs : List Pl} {P L n j : Nat} (hP : 1 ≤ P) (hj : j < n) (k : Nat) : eB (tabTo zs P L n k).h j = (decide (j / P < k) && ((setR zs P (j / P) (j / P * P) n).2 && isPl (eZ zs j))) := by
  have hdm := Nat.div_add_mod j P
  have hml := Nat.mod_lt j (show 0 < P by omega)
  induction k with
  | zero =>
    have : decide (j / P < 0) = false := by simp
    rw [this, Bool.false_and]
    unfold tabTo eB
    rw [List.getD_eq_getElem?_getD, List.getElem?_replicate, if_pos hj]
    rfl
  | succ k ih =>
    have hl := tabTo_h zs P L n k
    unfold tabTo tabStep
    by_cases hs : (setR zs P k (k * P) n).2 = true
    · rw [if_pos hs]
      show eB (havTo (tabTo zs P L n k).h zs (k * P) P) j = _
      rw [havTo_at (by omega), ih]
      by_cases e : j / P = k
      · subst e
        rw [Nat.mul_comm] at hdm
        rw [if_pos (by omega), hs, show decide (j / P < j / P + 1) = true by simp]
        simp
      · rw [if_neg]
        · rw [show decide (j / P < k + 1) = decide (j / P < k) by rw [decide_eq_decide]; omega]
        · rintro ⟨h1, h2⟩
          have h3 : k ≤ j / P := (Nat.le_div_iff_mul_le (by omega)).2 h1
          have h4 : j / P < k + 1 := (Nat.div_lt_iff_lt_mul (by omega)).2 (by rw [Nat.succ_mul]; exact h2)
          omega
    · rw [if_neg hs]
      have e1 : eB (if someTo zs (k * P) P = true then (⟨(tabTo zs P L n k).d, (tabTo zs P L n k).h, (tabTo zs P L n k).l ++ [(k : Int)]⟩ : TT) else tabTo zs P L n k).h j = eB (tabTo zs P L n k).h j := by split <;> rfl
      rw [e1, ih]
      by_cases e : j / P = k
      · subst e
        rw [Bool.eq_false_iff.2 hs]
        simp
      · rw [show decide (j / P < k + 1) = decide (j / P < k) by rw [decide_eq_decide]; omega]
theorem tab_l {zs : List Pl} {P L n : Nat} {x : Int} (k : Nat) : x ∈ (tabTo zs P L n k).l ↔ ∃ b : Nat, b < k ∧ (b : Int) = x ∧ (setR zs P b (b * P) n).2 = false ∧ someTo zs (b * P) P = true := by
  induction k with
  | zero => exact ⟨fun h => (by cases h), fun ⟨b, hb, _⟩ => (by omega)⟩
  | succ k ih =>
    have key : x ∈ (tabTo zs P L n (k + 1)).l ↔ (x ∈ (tabTo zs P L n k).l ∨ ((k : Int) = x ∧ (setR zs P k (k * P) n).2 = false ∧ someTo zs (k * P) P = true)) := by
      show x ∈ (tabStep zs P n k (tabTo zs P L n k)).l ↔ _
      unfold tabStep
      by_cases hs : (setR zs P k (k * P) n).2 = true
      · rw [if_pos hs]
        exact ⟨fun h => .inl h, fun h => h.elim id (fun h => by rw [hs] at h; cases h.2.1)⟩
      · rw [if_neg hs]
        by_cases ht : someTo zs (k * P) P = true
        · rw [if_pos ht]
          show x ∈ (tabTo zs P L n k).l ++ [(k : Int)] ↔ _
          rw [List.mem_append, List.mem_singleton]
          exact ⟨fun h => h.imp id (fun h => ⟨h.symm, by simpa using hs, ht⟩), fun h => h.imp id (fun h => h.1.symm)⟩
        · rw [if_neg ht]
          exact ⟨fun h => .inl h, fun h => h.elim id (fun h => absurd h.2.2 ht)⟩
    rw [key, ih]
    constructor
    · rintro (⟨b, h1, h2⟩ | h)
      · exact ⟨b, by omega, h2⟩
      · exact ⟨k, by omega, h⟩
    · rintro ⟨b, h1, h2⟩
      by_cases e : b = k
      · subst e; exact .inr h2
      · exact .inl ⟨b, by omega, h2⟩
theorem setR_yes {zs : List Pl} {P B a n : Nat} {x : Int} (h : setR zs P B a n = (x, true)) : (∃ i, i < P ∧ isPl (eZ zs (a + i)) = true ∧ (eZ zs (a + i)).ph = x) ∧ (∀ i, i < P → isPl (eZ zs (a + i)) = true → (eZ zs (a + i)).ph = x ∧ (eZ zs (a + i)).pg = (i : Int)) ∧
    (∀ j, j < n → j / P ≠ B → isPl (eZ zs j) = true → (eZ zs j).ph ≠ x) := by
  have he : ∀ i, i < P → eZ zs (a + i) = eZ (zs.drop a) i := fun i _ => by simp [eZ, List.getElem?_drop]
  unfold setR at h
  rcases refH_spec he P (Nat.le_refl _) with ⟨h1, _⟩ | ⟨y, hy, h1, h2, h3⟩ | ⟨h1, _⟩
  · rw [h1] at h
    simp at h
  · rw [h1] at h
    dsimp only at h
    rw [if_neg (by omega)] at h
    by_cases hg : refG zs P B y n = true
    · rw [if_pos hg] at h; simp at h
    · rw [if_neg hg] at h
      obtain rfl : y = x := by simpa using h
      refine ⟨?_, fun i hi hp => by rw [he i hi] at hp ⊢; exact h3 i hi hp, fun j hj hne hp e => hg (refG_iff.2 ⟨j, hj, hne, hp, e⟩)⟩
      obtain ⟨i, hi, hp⟩ := h2
      exact ⟨i, hi, by rw [he i hi]; exact hp, by rw [he i hi]; exact (h3 i hi hp).1⟩
  · rw [h1] at h
    simp at h
theorem someTo_iff {zs : List Pl} {a k : Nat} : someTo zs a k = true ↔ ∃ i, i < k ∧ isPl (eZ zs (a + i)) = true := by
  induction k with
  | zero => exact ⟨fun h => (by cases h), fun ⟨i, h, _⟩ => (by omega)⟩
  | succ k ih =>
    unfold someTo
    rw [Bool.or_eq_true, ih]
    constructor
    · rintro (⟨i, h1, h2⟩ | h)
      · exact ⟨i, by omega, h2⟩
      · exact ⟨k, by omega, h⟩
    · rintro ⟨i, h1, h2⟩
      by_cases e : i = k
      · subst e; exact .inr h2
      · exact .inl ⟨i, by omega, h2⟩
theorem set_eta {zs : List Pl} {P b a n : Nat} (h : (setR zs P b a n).2 = true) : setR zs P b a n = ((setR zs P b a n).1, true) := by
  rw [← h]
/-- What the table of what is settled keeps. -/
structure Fits (P L n : Nat) (zs : List Pl) (t : TT) : Prop where
  d : t.d.length = L
  h : t.h.length = n
  lo : ∀ b, b < L → -1 ≤ eI t.d b ∧ eI t.d b < 256
  ne : ∀ b c, b < L → c < L → b ≠ c → eI t.d b ≠ -1 → eI t.d b ≠ eI t.d c
  hv : ∀ j, j < n → eB t.h j = true → eI t.d (j / P) ≠ -1
  at' : ∀ j, j < n → eB t.h j = true → isPl (eZ zs j) = true ∧ (eZ zs j).ph = eI t.d (j / P) ∧ (eZ zs j).pg = ((j % P : Nat) : Int)
  no : ∀ j, j < n → eB t.h j = false → ((j / P : Nat) : Int) ∉ t.l → isPl (eZ zs j) = false
theorem fits_tab {zs : List Pl} {P L n : Nat} (hP : 1 ≤ P) (hn : n = L * P) : Fits P L n zs (tabTo zs P L n L) := by
  have hdiv : ∀ j, j < n → j / P < L := fun j hj => (Nat.div_lt_iff_lt_mul (by omega)).2 (by rw [← hn]; exact hj)
  have hfit : ∀ b i, b < L → i < P → b * P + i < n := fun b i hb hi => by
    have := Nat.mul_le_mul_right P (show b + 1 ≤ L from hb)
    rw [Nat.succ_mul] at this
    omega
  have hval : ∀ b, b < L → (eI (tabTo zs P L n L).d b = -1 ∧ (setR zs P b (b * P) n).2 = false) ∨ ((setR zs P b (b * P) n).2 = true ∧ eI (tabTo zs P L n L).d b = (setR zs P b (b * P) n).1) := fun b hb => by
    rw [tab_d hb]
    by_cases h : (setR zs P b (b * P) n).2 = true
    · rw [if_pos ⟨hb, h⟩]; exact .inr ⟨h, rfl⟩
    · rw [if_neg (fun h' => h h'.2)]; exact .inl ⟨rfl, by simpa using h⟩
  refine ⟨tabTo_d _ _ _ _ _, tabTo_h _ _ _ _ _, fun b hb => ?_, fun b c hb hc hbc h1 h2 => ?_, fun j hj h => ?_, fun j hj h => ?_, fun j hj h hl => ?_⟩
  · rcases hval b hb with ⟨h, _⟩ | ⟨h, e⟩
    · rw [h]; omega
    · obtain ⟨⟨i, hi, hp, hx⟩, _⟩ := setR_yes (set_eta h)
      have := isPl_ph hp
      rw [e, ← hx]
      omega
  · rcases hval b hb with ⟨h, _⟩ | ⟨h, e⟩
    · exact h1 h
    rcases hval c hc with ⟨h', _⟩ | ⟨h', e'⟩
    · rw [h'] at h2; exact h1 h2
    obtain ⟨⟨i, hi, hp, hx⟩, _⟩ := setR_yes (set_eta h)
    obtain ⟨_, _, hno⟩ := setR_yes (set_eta h')
    have hb2 : (b * P + i) / P = b := by rw [Nat.mul_comm, Nat.mul_add_div (by omega), Nat.div_eq_of_lt hi, Nat.add_zero]
    exact hno (b * P + i) (hfit b i hb hi) (by rw [hb2]; exact hbc) hp (by rw [hx, ← e', ← h2, e])
  · rw [tab_h hP hj, Bool.and_eq_true, Bool.and_eq_true] at h
    rcases hval (j / P) (hdiv j hj) with ⟨_, h'⟩ | ⟨h', e⟩
    · rw [h'] at h; exact absurd h.2.1 (by simp)
    · obtain ⟨⟨i, hi, hp, hx⟩, _⟩ := setR_yes (set_eta h')
      have := isPl_ph hp
      rw [e, ← hx]
      omega
  · rw [tab_h hP hj, Bool.and_eq_true, Bool.and_eq_true] at h
    rcases hval (j / P) (hdiv j hj) with ⟨_, h'⟩ | ⟨h', e⟩
    · rw [h'] at h; exact absurd h.2.1 (by simp)
    · obtain ⟨_, hall, _⟩ := setR_yes (set_eta h')
      have hdm := Nat.div_add_mod j P
      have hml := Nat.mod_lt j (show 0 < P by omega)
      rw [Nat.mul_comm] at hdm
      have := hall (j % P) hml
      rw [hdm] at this
      obtain ⟨x1, x2⟩ := this h.2.2
      exact ⟨h.2.2, by rw [x1, e], x2⟩
  · rw [tab_h hP hj, show decide (j / P < L) = true by simpa using hdiv j hj, Bool.true_and] at h
    cases hp : isPl (eZ zs j) with
    | false => rfl
    | true =>
      rw [hp, Bool.and_true] at h
      refine absurd ((tab_l L).2 ⟨j / P, hdiv j hj, rfl, h, someTo_iff.2 ⟨j % P, Nat.mod_lt j (by omega), ?_⟩⟩) hl
      have hdm := Nat.div_add_mod j P
      rw [Nat.mul_comm] at hdm
      rw [hdm]
      exact hp
theorem fits_ok {zs : List Pl} {P L n : Nat} {K : Int} {t : TT} (hok : okSz (P : Int) (L : Int) K = true) (hn : n = L * P) (h : Fits P L n zs t) : okT (setT (P : Int) L K t) = true := by
  obtain ⟨r1, r2, r3⟩ := okSz_iff.1 hok
  have hbl : blocksL (setT (P : Int) L K t) = t.d.filter fun x => x != -1 := by simp [blocksL, setT, seqL]
  have h1 : okShape (setT (P : Int) L K t) = true := by
    rw [okShape_iff]
    refine ⟨⟨r1, r2, r3⟩, by show (t.d.length : Int) = (L : Int); rw [h.d], ?_, ?_⟩
    · show (t.h.length : Int) = (L : Int) * (P : Int); rw [h.h, hn]; exact Int.natCast_mul L P
    · show ((0 : Nat) : Int) ≤ K; omega
  have h2 : okBlocks (setT (P : Int) L K t) = true := by
    unfold okBlocks okBl
    rw [hbl, Bool.and_eq_true]
    constructor
    · rw [List.all_eq_true]
      intro x hx
      rw [List.mem_filter] at hx
      obtain ⟨i, hi, rfl⟩ := List.mem_iff_getElem.1 hx.1
      have hl := h.lo i (by rw [← h.d]; exact hi)
      have e : eI t.d i = t.d[i] := by simp [eI, hi]
      rw [e] at hl
      have hne : t.d[i] ≠ -1 := by simpa using hx.2
      simp
      omega
    · rw [Bool.not_eq_true']
      unfold twice
      rw [decide_eq_false_iff_not, Decidable.not_not]
      show List.Pairwise _ _
      rw [List.pairwise_filter, List.pairwise_iff_getElem]
      intro i j hi hj hij hx hy e
      have := h.ne i j (by rw [← h.d]; exact hi) (by rw [← h.d]; exact hj) (by omega)
      rw [show eI t.d i = t.d[i] by simp [eI, hi], show eI t.d j = t.d[j] by simp [eI, hj]] at this
      exact this (by simpa using hx) e
  have h3 : okHv (setT (P : Int) L K t).pages.toNat (setT (P : Int) L K t).data (setT (P : Int) L K t).have' = true := by
    rw [okHv_iff]
    intro i hi hb
    show eI t.d (i / (P : Int).toNat) ≠ -1
    rw [Int.toNat_natCast]
    exact h.hv i (by rw [← h.h]; exact hi) hb
  have h4 : okSeq (setT (P : Int) L K t) = true := by simp [okSeq, setT]
  have h5 : okLogs (setT (P : Int) L K t) (setT (P : Int) L K t).pages.toNat = true := by simp [okLogs, okAll, setT, flatTo, twice]
  unfold okT
  rw [h1, h2, h3, h4, h5]
  rfl
theorem where_set {zs : List Pl} {P L n : Nat} {K : Int} {t : TT} (hok : okSz (P : Int) (L : Int) K = true) (hn : n = L * P) (h : Fits P L n zs t) {j : Nat} (hj : j < n) :
    whereE (setT (P : Int) L K t) (j : Int) = if eB t.h j = true then ((eI t.d (j / P), ((j % P : Nat) : Int)), true) else ((0, 0), false) := by
  obtain ⟨r1, r2, r3⟩ := okSz_iff.1 hok
  have hfit : fitT (setT (P : Int) L K t) = setT (P : Int) L K t := by unfold fitT; rw [fits_ok hok hn h]; rfl
  have hml := Nat.mod_lt j (show 0 < P by omega)
  have hdm := Nat.div_add_mod j P
  rw [Nat.mul_comm] at hdm
  have hpg : hasPg (setT (P : Int) L K t) (j : Int) = true := by
    have : (L : Int) * (P : Int) = (n : Int) := by rw [hn]; exact (Int.natCast_mul L P).symm
    unfold hasPg
    show (decide (0 ≤ (j : Int)) && decide ((j : Int) ≤ (L : Int) * (P : Int) - 1)) = true
    rw [this]
    simp
    omega
  have hst : whereP (setT (P : Int) L K t) P j = if eB t.h j = true then (eI t.d (j / P), ((j % P : Nat) : Int)) else (-1, 0) := by
    unfold whereP standP
    show ((List.range P).map (baseP (setT (P : Int) L K t) P (j / P))).getD (j % P) (-1, 0) = _
    rw [List.getD_eq_getElem?_getD, List.getElem?_map, List.getElem?_range hml]
    show baseP (setT (P : Int) L K t) P (j / P) (j % P) = _
    unfold baseP
    show (if ((-1 : Int) != -1 && _ && _) = true then _ else if eB t.h (j / P * P + j % P) = true then _ else _) = _
    rw [hdm]
    rfl
  unfold whereE
  rw [hfit, if_pos hpg]
  show (if (whereP (setT (P : Int) L K t) (P : Int).toNat (j : Int).toNat).1 = -1 then ((0, 0), false) else (whereP (setT (P : Int) L K t) (P : Int).toNat (j : Int).toNat, true)) = _
  rw [Int.toNat_natCast, Int.toNat_natCast, hst]
  cases hb : eB t.h j with
  | false => rfl
  | true =>
    have := h.hv j hj hb
    rw [if_pos rfl, if_neg this, if_pos rfl]
theorem newest_place {P : Int} {M : Nat} {xs : List Fd} {j : Nat} (hP : P ≤ 32) (hj : j < M) : isPl (eZ (placesOf (newestL P M xs)) j) = decide (0 ≤ (eZ (placesOf (newestL P M xs)) j).ph) := by
  rw [placesOf_at _ _ (by rw [newestL_length]; exact hj)]
  have := newestL_best P M xs j hj
  generalize (newestL P M xs).getD j noneF = r at *
  rcases this with ⟨hm, _⟩ | ⟨rfl, _⟩
  · rw [List.mem_filter] at hm
    obtain ⟨_, hc⟩ := hm
    unfold cntB at hc
    rw [Bool.and_eq_true] at hc
    have ho := hc.2
    unfold onB at ho
    rw [decide_eq_true_eq] at ho
    rw [show isPl ⟨r.ph, r.pg⟩ = true by unfold isPl onB; rw [decide_eq_true_eq]; show 0 ≤ r.ph ∧ r.ph < 256 ∧ 0 ≤ r.pg ∧ r.pg < 32; omega]
    simp [ho.1]
  · rfl
end Go.Proofs.Ytfgelncfmopibab
