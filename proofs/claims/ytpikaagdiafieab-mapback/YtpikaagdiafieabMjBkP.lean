/-
  The plain heart of P6.8 and P6.9: a checkpoint's pages know the state, and with the records to another one, that one.
-/
import Derived.Test.YtpikaagdiafieabMjOrdP
import Derived.Test.YtpikaagdiafieabMjCpB
import Derived.Test.YtpikaagdiafieabMjDiffB
namespace Go.Proofs.Ytpikaagdiafieab
open Go.RowKit
/-- What the first i parts of a checkpoint know. -/
def knowTo (s : MS) (n i : Nat) : MS := ⟨s.bad.take (i * 64) ++ List.replicate (n - i * 64) false, s.wear.take (i * 64) ++ List.replicate (n - i * 64) 0, if i = 0 then 0 else s.seq⟩
theorem knowTo_bad {s : MS} {n i j : Nat} (hn : s.bad.length = n) (hj : j < n) : eB (knowTo s n i).bad j = (decide (j < i * 64) && eB s.bad j) := by
  have hl : (s.bad.take (i * 64)).length = min (i * 64) n := by rw [List.length_take, hn]
  simp only [knowTo, eB, List.getD_eq_getElem?_getD, List.getElem?_append, hl]
  by_cases h : j < i * 64
  · rw [if_pos (by omega), List.getElem?_take_of_lt h]; simp [h]
  · rw [if_neg (by omega), List.getElem?_replicate]; simp [h]
    split <;> rfl
theorem knowTo_wear {s : MS} {n i j : Nat} (hn : s.wear.length = n) (hj : j < n) : eI (knowTo s n i).wear j = if j < i * 64 then eI s.wear j else 0 := by
  have hl : (s.wear.take (i * 64)).length = min (i * 64) n := by rw [List.length_take, hn]
  simp only [knowTo, eI, List.getD_eq_getElem?_getD, List.getElem?_append, hl]
  by_cases h : j < i * 64
  · rw [if_pos (by omega), List.getElem?_take_of_lt h, if_pos h]
  · rw [if_neg (by omega), List.getElem?_replicate, if_neg h]
    split <;> rfl
theorem knowTo_sz {s : MS} {n i : Nat} (hb : s.bad.length = n) (hw : s.wear.length = n) : Sz n (knowTo s n i) := by
  constructor
  · simp [knowTo, hb]; omega
  · simp [knowTo, hw]; omega
theorem part_ok {s : MS} {gen : Int} {n m i : Nat} (hs : Good n s) (hg : okGen gen) (hm : m = (n + 63) / 64) (hi : i < m) : okMP (partP s gen i) = true := by
  obtain ⟨h1, h2, h3, h4, h5⟩ := okMS_iff.1 hs.ok
  have hsz := hs.sz
  rw [okMP_iff]
  have lb : ((s.bad.drop (i * 64)).take 64).length = min 64 (n - i * 64) := by rw [List.length_take, List.length_drop, hsz]
  have lw : ((s.wear.drop (i * 64)).take 64).length = min 64 (n - i * 64) := by rw [List.length_take, List.length_drop, h2, hsz]
  refine ⟨hg, .inl ⟨rfl, ?_, ⟨h4, h5⟩, ?_, ?_, ?_, rfl⟩⟩
  · show 0 ≤ (i : Int) ∧ (i : Int) ≤ 3; omega
  · show 1 ≤ ((s.bad.drop (i * 64)).take 64).length ∧ ((s.bad.drop (i * 64)).take 64).length ≤ 64; omega
  · show ((s.wear.drop (i * 64)).take 64).length = ((s.bad.drop (i * 64)).take 64).length; omega
  · show ((s.wear.drop (i * 64)).take 64).all okWear = true
    rw [List.all_eq_true] at *
    exact fun x hx => h3 x (List.mem_of_mem_drop (List.mem_of_mem_take hx))
theorem eB_sub {xs : List Bool} {a j : Nat} (h : j < 64) : eB ((xs.drop a).take 64) j = eB xs (a + j) := by
  simp [eB, List.getElem?_take_of_lt h, List.getElem?_drop]
theorem eI_sub {xs : List Int} {a j : Nat} (h : j < 64) : eI ((xs.drop a).take 64) j = eI xs (a + j) := by
  simp [eI, List.getElem?_take_of_lt h, List.getElem?_drop]
theorem know_step {s : MS} {gen : Int} {n i : Nat} (hs : Good n s) (hi : i * 64 < n) : learnP n (knowTo s n i) (partP s gen i) = knowTo s n (i + 1) := by
  obtain ⟨h1, h2, h3, h4, h5⟩ := okMS_iff.1 hs.ok
  have hsz := hs.sz
  have z0 := knowTo_sz (i := i) hsz (h2.trans hsz)
  have z1 := knowTo_sz (i := i + 1) hsz (h2.trans hsz)
  have zl := learnP_sz z0 (partP s gen i)
  have ef : (((i : Int)) * 64).toNat = i * 64 := by omega
  have lb : ((s.bad.drop (i * 64)).take 64).length = min 64 (n - i * 64) := by rw [List.length_take, List.length_drop, hsz]
  refine extMS (extB (zl.b.trans z1.b.symm) fun j hj => ?_) (extI (zl.w.trans z1.w.symm) fun j hj => ?_) ?_
  · rw [zl.b] at hj
    have e : (learnP n (knowTo s n i) (partP s gen i)).bad = upB (knowTo s n i).bad (i * 64) (min (min 64 (n - i * 64)) (n - i * 64)) ((s.bad.drop (i * 64)).take 64) := by
      unfold learnP
      rw [if_pos (show (partP s gen i).kind = 1 from rfl)]
      show upB _ (((i : Int)) * 64).toNat (min ((s.bad.drop (i * 64)).take 64).length (n - (((i : Int)) * 64).toNat)) _ = _
      rw [ef, lb]
      rfl
    obtain ⟨K, hK⟩ : ∃ K, K = min (min 64 (n - i * 64)) (n - i * 64) := ⟨_, rfl⟩
    rw [← hK] at e
    rw [e, upB_eg (by rw [z0.b]; exact hj), knowTo_bad hsz hj, knowTo_bad hsz hj]
    by_cases c1 : j < i * 64
    · simp [c1, show j < (i + 1) * 64 by omega, show ¬ i * 64 ≤ j by omega]
    · by_cases c2 : j < (i + 1) * 64
      · rw [eB_sub (by omega), show i * 64 + (j - i * 64) = j by omega]
        simp [c1, c2, show i * 64 ≤ j by omega, show j < i * 64 + K by omega]
      · simp [c1, c2, show ¬ j < i * 64 + K by omega]
  · rw [zl.w] at hj
    have e : (learnP n (knowTo s n i) (partP s gen i)).wear = upW (knowTo s n i).wear (i * 64) (min (min 64 (n - i * 64)) (n - i * 64)) ((s.wear.drop (i * 64)).take 64) := by
      unfold learnP
      rw [if_pos (show (partP s gen i).kind = 1 from rfl)]
      show upW _ (((i : Int)) * 64).toNat (min ((s.bad.drop (i * 64)).take 64).length (n - (((i : Int)) * 64).toNat)) _ = _
      rw [ef, lb]
      rfl
    obtain ⟨K, hK⟩ : ∃ K, K = min (min 64 (n - i * 64)) (n - i * 64) := ⟨_, rfl⟩
    rw [← hK] at e
    have hwn : s.wear.length = n := h2.trans hsz
    have hwj := okWear_iff.1 (eI_all.1 h3 j (by omega))
    rw [e, upW_eg (by rw [z0.w]; exact hj), knowTo_wear hwn hj, knowTo_wear hwn hj]
    by_cases c1 : j < i * 64
    · rw [if_neg (by omega), if_pos c1, if_pos (by omega)]
    · by_cases c2 : j < (i + 1) * 64
      · rw [if_pos (by omega), eI_sub (by omega), show i * 64 + (j - i * 64) = j by omega, if_neg c1, if_pos c2]
        omega
      · rw [if_neg (by omega), if_neg c1, if_neg c2]
  · have e : (learnP n (knowTo s n i) (partP s gen i)).seq = max (knowTo s n i).seq s.seq := by
      unfold learnP
      rw [if_pos (show (partP s gen i).kind = 1 from rfl)]
      rfl
    rw [e]
    show max (if i = 0 then 0 else s.seq) s.seq = if i + 1 = 0 then 0 else s.seq
    rw [if_neg (show ¬ i + 1 = 0 by omega)]
    by_cases h0 : i = 0
    · rw [if_pos h0]; omega
    · rw [if_neg h0]; omega
theorem cpL_succ (s : MS) (gen : Int) (i : Nat) : cpL s gen (i + 1) = cpL s gen i ++ [partP s gen i] := by simp [cpL, List.range_succ]
theorem replay_cp {s : MS} {gen : Int} {n m : Nat} (hs : Good n s) (hg : okGen gen) (hm : m = (n + 63) / 64) : ∀ i, i ≤ m → replayP n (cpL s gen i) = (knowTo s n i, if i = 0 then 0 else gen)
  | 0, _ => by
    show (newMS n, 0) = _
    rw [if_pos rfl]
    congr 1
  | i + 1, hi => by
    rw [cpL_succ, replayP_snoc, replay_cp hs hg hm i (by omega)]
    unfold stepP
    rw [if_pos (part_ok hs hg hm (by omega)), know_step hs (by have := hs.size; omega), if_neg (show ¬ i + 1 = 0 by omega)]
    congr 1
    show max (if i = 0 then 0 else gen) gen = gen
    have := hg.1
    by_cases h0 : i = 0
    · rw [if_pos h0]; omega
    · rw [if_neg h0]; omega
theorem know_all {s : MS} {n m : Nat} (hs : Good n s) (hm : m = (n + 63) / 64) : knowTo s n m = s := by
  have hsz := hs.sz
  have h2 := (okMS_iff.1 hs.ok).2.1
  have h := hs.size
  unfold knowTo
  rw [List.take_of_length_le (by omega), List.take_of_length_le (by omega), show n - m * 64 = 0 by omega, if_neg (by omega)]
  simp
/-- A checkpoint's pages know the state. -/
theorem replay_check {s : MS} {gen : Int} {n m : Nat} (hs : Good n s) (hg : okGen gen) (hm : m = (n + 63) / 64) : replayP n (cpL s gen m) = (s, gen) := by
  have h := hs.size
  rw [replay_cp hs hg hm m (Nat.le_refl _), know_all hs hm, if_neg (by omega)]
/-- What covers, block by block. -/
theorem covers_le {a b : MS} (h : coversB a b = true) : okMS a = true ∧ okMS b = true ∧ Le b a := by
  unfold coversB at h
  simp only [Bool.and_eq_true, decide_eq_true_eq] at h
  obtain ⟨h1, h2⟩ := h
  have h3 := sameS_iff.1 h2
  obtain ⟨ha, hb, hl⟩ := joinE_iff.1 h1
  have a2 := (okMS_iff.1 ha).2.1
  have b2 := (okMS_iff.1 hb).2.1
  refine ⟨ha, hb, hl, by omega, fun j hj e => ?_, fun j hj => ?_, ?_⟩
  · have : eB (joinMS a b).bad j = eB a.bad j := by rw [h3]
    rw [show (joinMS a b).bad = upB a.bad 0 b.bad.length b.bad from rfl, upB_e (by omega) hj, e, Bool.or_true] at this
    exact this.symm
  · have : eI (joinMS a b).wear j = eI a.wear j := by rw [h3]
    rw [show (joinMS a b).wear = upW a.wear 0 b.bad.length b.wear from rfl, upW_e (by omega) (by omega)] at this
    omega
  · have : (joinMS a b).seq = a.seq := by rw [h3]
    rw [show (joinMS a b).seq = max a.seq b.seq from rfl] at this
    omega
/-- s up to block k as t has it. -/
def mixTo (s t : MS) (k : Nat) : MS := ⟨t.bad.take k ++ s.bad.drop k, t.wear.take k ++ s.wear.drop k, t.seq⟩
theorem mix_bad {s t : MS} {k j : Nat} (hl : t.bad.length = s.bad.length) (hk : k ≤ s.bad.length) : eB (mixTo s t k).bad j = if j < k then eB t.bad j else eB s.bad j := by
  have h : (t.bad.take k).length = k := by rw [List.length_take]; omega
  simp only [mixTo, eB, List.getD_eq_getElem?_getD, List.getElem?_append, h]
  by_cases c : j < k
  · rw [if_pos c, if_pos c, List.getElem?_take_of_lt c]
  · rw [if_neg c, if_neg c, List.getElem?_drop, show k + (j - k) = j by omega]
theorem mix_wear {s t : MS} {k j : Nat} (hl : t.wear.length = s.wear.length) (hk : k ≤ s.wear.length) : eI (mixTo s t k).wear j = if j < k then eI t.wear j else eI s.wear j := by
  have h : (t.wear.take k).length = k := by rw [List.length_take]; omega
  simp only [mixTo, eI, List.getD_eq_getElem?_getD, List.getElem?_append, h]
  by_cases c : j < k
  · rw [if_pos c, if_pos c, List.getElem?_take_of_lt c]
  · rw [if_neg c, if_neg c, List.getElem?_drop, show k + (j - k) = j by omega]
theorem mix_len {s t : MS} {k : Nat} (hl : t.bad.length = s.bad.length) (hw : t.wear.length = s.wear.length) : (mixTo s t k).bad.length = s.bad.length ∧ (mixTo s t k).wear.length = s.wear.length := by
  simp [mixTo]; omega
theorem bad_next {s t : MS} {k : Nat} (hl : t.bad.length = s.bad.length) (hk : k < s.bad.length) (B : List Bool) (hB : B.length = s.bad.length) (h : ∀ j, j < s.bad.length → eB B j = if j < k + 1 then eB t.bad j else eB s.bad j) : B = (mixTo s t (k + 1)).bad := by
  have e : (mixTo s t (k + 1)).bad.length = s.bad.length := by simp [mixTo]; omega
  refine extB (hB.trans e.symm) fun j hj => ?_
  rw [h j (by omega), mix_bad hl (by omega)]
theorem wear_next {s t : MS} {k : Nat} (hl : t.wear.length = s.wear.length) (hk : k < s.wear.length) (B : List Int) (hB : B.length = s.wear.length) (h : ∀ j, j < s.wear.length → eI B j = if j < k + 1 then eI t.wear j else eI s.wear j) : B = (mixTo s t (k + 1)).wear := by
  have e : (mixTo s t (k + 1)).wear.length = s.wear.length := by simp [mixTo]; omega
  refine extI (hB.trans e.symm) fun j hj => ?_
  rw [h j (by omega), mix_wear hl (by omega)]
theorem mix_step {s t : MS} {n k : Nat} (hs : Good n s) (ht : Good n t) (hle : Le s t) (hk : k < n) : (diffAt s t k).foldl learnR (mixTo s t k) = mixTo s t (k + 1) := by
  have s1 := hs.Sz; have t1 := ht.Sz
  have lb : t.bad.length = s.bad.length := t1.b.trans s1.b.symm
  have lw : t.wear.length = s.wear.length := t1.w.trans s1.w.symm
  have hml := mix_len (k := k) lb lw
  have kb := s1.b; have kw := s1.w
  -- the bad bit
  have hB : ∀ (M : MS), M = (if eB t.bad k && !eB s.bad k then learnR (mixTo s t k) ⟨1, (k : Int), 0⟩ else mixTo s t k) → M.bad = (mixTo s t (k + 1)).bad ∧ M.wear = (mixTo s t k).wear ∧ M.seq = t.seq := by
    intro M hM
    cases hc : (eB t.bad k && !eB s.bad k) with
    | true =>
      rw [hc, if_pos rfl] at hM
      simp only [Bool.and_eq_true, Bool.not_eq_true'] at hc
      have eM : M = { mixTo s t k with bad := (mixTo s t k).bad.set k true } := by rw [hM]; unfold learnR; rw [if_pos rfl]; simp
      refine ⟨?_, by rw [eM], by rw [eM]; rfl⟩
      refine bad_next lb (by omega) _ (by rw [eM]; show ((mixTo s t k).bad.set k true).length = _; rw [List.length_set]; exact hml.1) fun j hj => ?_
      rw [eM]
      show eB ((mixTo s t k).bad.set k true) j = _
      rw [eB_set, mix_bad lb (by omega), hml.1]
      by_cases c : j = k
      · subst c
        rw [if_neg (Nat.lt_irrefl _), if_pos (Nat.lt_succ_self _), hc.1]; simp [hj]
      · by_cases c2 : j < k
        · rw [if_pos c2, if_pos (by omega)]; simp [c]
        · rw [if_neg c2, if_neg (by omega)]; simp [c]
    | false =>
      rw [hc] at hM
      simp only [Bool.false_eq_true, if_false] at hM
      refine ⟨?_, by rw [hM], by rw [hM]; rfl⟩
      refine bad_next lb (by omega) _ (by rw [hM]; exact hml.1) fun j hj => ?_
      rw [hM, mix_bad lb (by omega)]
      by_cases c : j = k
      · subst c
        rw [if_neg (by omega), if_pos (by omega)]
        have := hle.bad j (by omega)
        cases h1 : eB s.bad j with
        | true => rw [this h1]
        | false =>
          rw [h1] at hc
          simpa using hc.symm
      · by_cases c2 : j < k
        · rw [if_pos c2, if_pos (by omega)]
        · rw [if_neg c2, if_neg (by omega)]
  -- the wear
  have hW : ∀ (M : MS), M.bad = (mixTo s t (k + 1)).bad → M.wear = (mixTo s t k).wear → M.seq = t.seq → (if eI t.wear k > eI s.wear k then learnR M ⟨2, (k : Int), eI t.wear k⟩ else M) = mixTo s t (k + 1) := by
    intro M m1 m2 m3
    by_cases hc : eI t.wear k > eI s.wear k
    · rw [if_pos hc]
      have eM : learnR M ⟨2, (k : Int), eI t.wear k⟩ = { M with wear := M.wear.set k (max (eI M.wear k) (eI t.wear k)) } := by
        unfold learnR; rw [if_neg (by show ¬ (2 : Int) = 1; decide), if_pos rfl]; simp
      rw [eM]
      refine extMS m1 ?_ m3
      show M.wear.set k (max (eI M.wear k) (eI t.wear k)) = _
      rw [m2]
      refine wear_next lw (by omega) _ (by rw [List.length_set]; exact hml.2) fun j hj => ?_
      by_cases c : k = j
      · subst c
        rw [eI_set_self (by rw [hml.2]; omega), mix_wear lw (by omega), if_neg (by omega), if_pos (by omega)]
        omega
      · rw [eI_set_ne c, mix_wear lw (by omega)]
        by_cases c2 : j < k
        · rw [if_pos c2, if_pos (by omega)]
        · rw [if_neg c2, if_neg (by omega)]
    · rw [if_neg hc]
      refine extMS m1 ?_ m3
      rw [m2]
      refine wear_next lw (by omega) _ hml.2 fun j hj => ?_
      rw [mix_wear lw (by omega)]
      by_cases c : j = k
      · subst c
        rw [if_neg (by omega), if_pos (by omega)]
        have := hle.wear j (by omega)
        omega
      · by_cases c2 : j < k
        · rw [if_pos c2, if_pos (by omega)]
        · rw [if_neg c2, if_neg (by omega)]
  obtain ⟨b1, b2, b3⟩ := hB _ rfl
  have hw := hW _ b1 b2 b3
  unfold diffAt
  rw [List.foldl_append]
  have e1 : (if (eB t.bad k && !eB s.bad k) = true then [(⟨1, (k : Int), 0⟩ : MR)] else []).foldl learnR (mixTo s t k) = if (eB t.bad k && !eB s.bad k) = true then learnR (mixTo s t k) ⟨1, (k : Int), 0⟩ else mixTo s t k := by split <;> rfl
  rw [e1, ← hw]
  by_cases hc2 : eI t.wear k > eI s.wear k
  · rw [if_pos hc2, if_pos hc2]; rfl
  · rw [if_neg hc2, if_neg hc2]; rfl
theorem mix_zero {s t : MS} : mixTo s t 0 = ⟨s.bad, s.wear, t.seq⟩ := by simp [mixTo]
theorem mix_all {s t : MS} {n : Nat} (hs : Good n s) (ht : Good n t) : mixTo s t n = t := by
  have s1 := hs.Sz; have t1 := ht.Sz
  unfold mixTo
  rw [List.take_of_length_le (by rw [t1.b]; exact Nat.le_refl _), List.take_of_length_le (by rw [t1.w]; exact Nat.le_refl _), List.drop_of_length_le (by rw [s1.b]; exact Nat.le_refl _), List.drop_of_length_le (by rw [s1.w]; exact Nat.le_refl _)]
  simp
theorem diff_fold {s t : MS} {n : Nat} (hs : Good n s) (ht : Good n t) (hle : Le s t) : ∀ k, k ≤ n → (diffTo s t k).foldl learnR s = mixTo s t k
  | 0, _ => by
    have hq := hle.seq
    rw [mix_zero]
    unfold diffTo
    simp only [List.range_zero, List.flatMap_nil, List.append_nil]
    by_cases h : t.seq > s.seq
    · rw [if_pos h]
      show learnR s ⟨3, 0, t.seq⟩ = _
      unfold learnR
      rw [if_neg (by show ¬ (3 : Int) = 1; decide), if_neg (by show ¬ (3 : Int) = 2; decide), if_pos rfl]
      show (⟨s.bad, s.wear, max s.seq t.seq⟩ : MS) = _
      rw [show max s.seq t.seq = t.seq by omega]
    · rw [if_neg h]
      show s = _
      have : s.seq = t.seq := by omega
      rw [← this]
  | k + 1, hk => by
    rw [diffTo_succ, List.foldl_append, diff_fold hs ht hle k (by omega), mix_step hs ht hle (by omega)]
/-- All records of a difference may be, and are of blocks that there are. -/
theorem diff_okFor {s t : MS} {n : Nat} (_hs : Good n s) (ht : Good n t) : ∀ k, k ≤ n → (diffTo s t k).all (okFor n) = true
  | 0, _ => by
    have h := ht.size
    obtain ⟨-, -, -, h4, h5⟩ := okMS_iff.1 ht.ok
    unfold diffTo
    simp only [List.range_zero, List.flatMap_nil, List.append_nil]
    split
    · simp [okFor, okMR]; omega
    · rfl
  | k + 1, hk => by
    have h := ht.size
    have ih := diff_okFor _hs ht k (by omega)
    have hw := eI_all.1 (okMS_iff.1 ht.ok).2.2.1 k (by have := ht.Sz.w; omega)
    rw [diffTo_succ, List.all_append, ih, Bool.true_and]
    unfold diffAt
    rw [List.all_append]
    have a1 : (if (eB t.bad k && !eB s.bad k) = true then [(⟨1, (k : Int), 0⟩ : MR)] else []).all (okFor n) = true := by
      split
      · simp [okFor, okMR]; omega
      · rfl
    have a2 : (if eI t.wear k > eI s.wear k then [(⟨2, (k : Int), eI t.wear k⟩ : MR)] else []).all (okFor n) = true := by
      split
      · simp [okFor, okMR, hw]; omega
      · rfl
    rw [a1, a2]; rfl
/-- Records to another state make that one. -/
theorem diff_apply {s t : MS} {n : Nat} (hs : Good n s) (ht : Good n t) (hle : Le s t) : applyR s (diffTo s t n) = (t, 0) := by
  rw [applyR_ok hs.ok (by rw [hs.sz]; exact diff_okFor hs ht n (Nat.le_refl _)), diff_fold hs ht hle n (Nat.le_refl _), mix_all hs ht]
theorem recsN_fold {n : Nat} {l : List MR} (h : l.all (okFor n) = true) (s : MS) : recsN n s l = l.foldl learnR s := by
  induction l generalizing s with
  | nil => rfl
  | cons r l ih =>
    simp only [List.all_cons, Bool.and_eq_true] at h
    have hb : r.block < (n : Int) := by have := h.1; simp [okFor] at this; exact this.2
    have e : recsN n s (r :: l) = recsN n (if r.block < (n : Int) then learnR s r else s) l := rfl
    rw [e, if_pos hb, ih h.2, List.foldl_cons]
/-- A page of records behind pages. -/
theorem replay_recs {n : Nat} {L : List MP} {gen : Int} {l : List MR} (hg : okGen gen) (hl : l.length ≤ 24) (h : l.all (okFor n) = true) : (replayP n (L ++ [⟨2, gen, 0, 0, [], [], l⟩])).1 = l.foldl learnR (replayP n L).1 := by
  have hall : l.all okMR = true := by
    rw [List.all_eq_true] at *
    intro r hr
    have := h r hr
    simp [okFor] at this
    exact this.1
  have hok : okMP ⟨2, gen, 0, 0, [], [], l⟩ = true := okMP_iff.2 ⟨hg, .inr ⟨rfl, rfl, rfl, rfl, rfl, hl, hall⟩⟩
  rw [replayP_snoc]
  unfold stepP
  rw [if_pos hok]
  show learnP n (replayP n L).1 ⟨2, gen, 0, 0, [], [], l⟩ = _
  unfold learnP
  rw [if_neg (by show ¬ (2 : Int) = 1; decide)]
  exact recsN_fold h _
theorem parts_few {n : Nat} (hn : 16 ≤ n ∧ n ≤ 256) : 16 * ((n + 63) / 64) < max n 64 := by
  rcases Nat.le_total n 64 with h | h
  · rw [Nat.max_eq_right h]; omega
  · rw [Nat.max_eq_left h]; omega
end Go.Proofs.Ytpikaagdiafieab
