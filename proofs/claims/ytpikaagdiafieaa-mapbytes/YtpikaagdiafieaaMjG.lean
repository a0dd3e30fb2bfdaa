/-
  The plain heart of P6.6: what two states know together only grows.
-/
import Derived.Test.YtpikaagdiafieaaMjP
namespace Go.Proofs.Ytpikaagdiafieaa
theorem extB {xs ys : List Bool} (hl : xs.length = ys.length) (h : ∀ j, j < xs.length → eB xs j = eB ys j) : xs = ys := by
  apply List.ext_getElem hl
  intro j h1 h2
  rw [← eB_at h1, ← eB_at h2]; exact h j h1
theorem extI {xs ys : List Int} (hl : xs.length = ys.length) (h : ∀ j, j < xs.length → eI xs j = eI ys j) : xs = ys := by
  apply List.ext_getElem hl
  intro j h1 h2
  rw [← eI_at h1, ← eI_at h2]; exact h j h1
theorem extMS {a b : MS} (h1 : a.bad = b.bad) (h2 : a.wear = b.wear) (h3 : a.seq = b.seq) : a = b := by
  cases a; cases b; simp_all
theorem upB_e {B : List Bool} {n : Nat} {b : List Bool} {j : Nat} (h : j < B.length) (hn : j < n) : eB (upB B 0 n b) j = (eB B j || eB b j) := by
  rw [eB_at (by rw [upB_length]; exact h), upB_get h, eB_at h]
  simp [hn]
theorem upW_e {B : List Int} {n : Nat} {b : List Int} {j : Nat} (h : j < B.length) (hn : j < n) : eI (upW B 0 n b) j = max (eI B j) (eI b j) := by
  rw [eI_at (by rw [upW_length]; exact h), upW_get h, if_pos (by omega), eI_at h, Nat.sub_zero]
theorem joinE_iff {a b : MS} : joinE a b = 0 ↔ okMS a = true ∧ okMS b = true ∧ a.bad.length = b.bad.length := by
  unfold joinE
  constructor
  · intro h
    split at h
    · rename_i h1
      split at h
      · rename_i h2; simp at h1; exact ⟨h1.1, h1.2, h2⟩
      · omega
    · omega
  · rintro ⟨h1, h2, h3⟩
    rw [h1, h2]; simp [h3]
theorem joinE_comm (a b : MS) : joinE a b = joinE b a := by
  unfold joinE
  cases okMS a <;> cases okMS b <;> simp [eq_comm]
theorem joinMS_lens (a b : MS) : (joinMS a b).bad.length = a.bad.length ∧ (joinMS a b).wear.length = a.wear.length := ⟨upB_length _ _ _ _, upW_length _ _ _ _⟩
theorem join_ok {a b : MS} (h : joinE a b = 0) : okMS (joinMS a b) = true := by
  obtain ⟨ha, hb, hl⟩ := joinE_iff.1 h
  obtain ⟨ha1, ha2, ha3, ha4, ha5⟩ := okMS_iff.1 ha
  obtain ⟨hb1, hb2, hb3, hb4, hb5⟩ := okMS_iff.1 hb
  have hL := joinMS_lens a b
  rw [okMS_iff, hL.1, hL.2]
  refine ⟨ha1, ha2, ?_, ?_, ?_⟩
  · rw [eI_all]
    intro j hj
    rw [hL.2] at hj
    have h1 := okWear_iff.1 (eI_all.1 ha3 j hj)
    have h2 := okWear_iff.1 (eI_all.1 hb3 j (by omega))
    show okWear (eI (upW a.wear 0 b.bad.length b.wear) j) = true
    rw [upW_e hj (by omega), okWear_iff]
    omega
  · show 0 ≤ max a.seq b.seq; omega
  · show max a.seq b.seq ≤ _; omega
theorem join_comm {a b : MS} (h : joinE a b = 0) : joinMS a b = joinMS b a := by
  obtain ⟨ha, hb, hl⟩ := joinE_iff.1 h
  obtain ⟨ha1, ha2, -⟩ := okMS_iff.1 ha
  obtain ⟨hb1, hb2, -⟩ := okMS_iff.1 hb
  refine extMS (extB ?_ fun j hj => ?_) (extI ?_ fun j hj => ?_) ?_
  · simp [joinMS, upB_length, hl]
  · have hj' : j < a.bad.length := by simpa [joinMS, upB_length] using hj
    show eB (upB a.bad 0 b.bad.length b.bad) j = eB (upB b.bad 0 a.bad.length a.bad) j
    rw [upB_e hj' (by omega), upB_e (by omega) (by omega), Bool.or_comm]
  · simp [joinMS, upW_length, hl, ha2, hb2]
  · have hj' : j < a.wear.length := by simpa [joinMS, upW_length] using hj
    show eI (upW a.wear 0 b.bad.length b.wear) j = eI (upW b.wear 0 a.bad.length a.wear) j
    rw [upW_e hj' (by omega), upW_e (by omega) (by omega), Int.max_comm]
  · show max a.seq b.seq = max b.seq a.seq; omega
theorem join_self {a b : MS} (h : joinE a b = 0) : joinMS (joinMS a b) a = joinMS a b := by
  obtain ⟨ha, hb, hl⟩ := joinE_iff.1 h
  obtain ⟨ha1, ha2, -⟩ := okMS_iff.1 ha
  have hL := joinMS_lens a b
  have hM := joinMS_lens (joinMS a b) a
  refine extMS (extB ?_ fun j hj => ?_) (extI ?_ fun j hj => ?_) ?_
  · rw [hM.1]
  · rw [hM.1, hL.1] at hj
    show eB (upB (joinMS a b).bad 0 a.bad.length a.bad) j = eB (upB a.bad 0 b.bad.length b.bad) j
    rw [upB_e (by rw [hL.1]; exact hj) hj]
    show (eB (upB a.bad 0 b.bad.length b.bad) j || _) = _
    rw [upB_e hj (by omega)]
    cases eB a.bad j <;> simp
  · rw [hM.2]
  · rw [hM.2, hL.2] at hj
    show eI (upW (joinMS a b).wear 0 a.bad.length a.wear) j = eI (upW a.wear 0 b.bad.length b.wear) j
    rw [upW_e (by rw [hL.2]; exact hj) (by omega)]
    show max (eI (upW a.wear 0 b.bad.length b.wear) j) _ = _
    rw [upW_e hj (by omega)]
    omega
  · show max (max a.seq b.seq) a.seq = max a.seq b.seq; omega
theorem join_self' {a b : MS} (h : joinE a b = 0) : joinMS (joinMS a b) b = joinMS a b := by
  have h' : joinE b a = 0 := by rw [joinE_comm]; exact h
  rw [join_comm h]
  exact join_self h'
theorem join_e1 {a b c : MS} (h : joinE a b = 0) (hc : okMS c = true) (hl : a.bad.length = c.bad.length) : joinE (joinMS a b) c = 0 :=
  joinE_iff.2 ⟨join_ok h, hc, by rw [(joinMS_lens a b).1]; exact hl⟩
theorem join_assoc {a b c : MS} (h : joinE a b = 0) (h2 : joinE b c = 0) : joinMS (joinMS a b) c = joinMS a (joinMS b c) := by
  obtain ⟨ha, hb, hl⟩ := joinE_iff.1 h
  obtain ⟨-, hc, hl2⟩ := joinE_iff.1 h2
  obtain ⟨ha1, ha2, -⟩ := okMS_iff.1 ha
  obtain ⟨hb1, hb2, -⟩ := okMS_iff.1 hb
  obtain ⟨hc1, hc2, -⟩ := okMS_iff.1 hc
  have hL := joinMS_lens a b
  have hM := joinMS_lens (joinMS a b) c
  have hN := joinMS_lens b c
  have hK := joinMS_lens a (joinMS b c)
  refine extMS (extB ?_ fun j hj => ?_) (extI ?_ fun j hj => ?_) ?_
  · rw [hM.1, hL.1, hK.1]
  · rw [hM.1, hL.1] at hj
    show eB (upB (joinMS a b).bad 0 c.bad.length c.bad) j = eB (upB a.bad 0 (joinMS b c).bad.length (joinMS b c).bad) j
    rw [upB_e (by rw [hL.1]; exact hj) (by omega), upB_e hj (by rw [hN.1]; omega)]
    show (eB (upB a.bad 0 b.bad.length b.bad) j || _) = (_ || eB (upB b.bad 0 c.bad.length c.bad) j)
    rw [upB_e hj (by omega), upB_e (by omega) (by omega), Bool.or_assoc]
  · rw [hM.2, hL.2, hK.2]
  · rw [hM.2, hL.2] at hj
    show eI (upW (joinMS a b).wear 0 c.bad.length c.wear) j = eI (upW a.wear 0 (joinMS b c).bad.length (joinMS b c).wear) j
    rw [upW_e (by rw [hL.2]; exact hj) (by omega), upW_e hj (by rw [hN.1]; omega)]
    show max (eI (upW a.wear 0 b.bad.length b.wear) j) _ = max _ (eI (upW b.wear 0 c.bad.length c.wear) j)
    rw [upW_e hj (by omega), upW_e (by omega) (by omega)]
    omega
  · show max (max a.seq b.seq) c.seq = max a.seq (max b.seq c.seq); omega
theorem covers_of {a b : MS} (h : joinE a b = 0) (h2 : joinMS a b = a) : coversB a b = true := by unfold coversB; rw [h, h2, sameS_iff.2 rfl]; rfl
theorem covers_join {a b : MS} (h : joinE a b = 0) : coversB (joinMS a b) a = true ∧ coversB (joinMS a b) b = true := by
  obtain ⟨ha, hb, hl⟩ := joinE_iff.1 h
  exact ⟨covers_of (join_e1 h ha rfl) (join_self h), covers_of (join_e1 h hb hl) (join_self' h)⟩
/-- b is in a, block by block. -/
structure Le (b a : MS) : Prop where
  lb : a.bad.length = b.bad.length
  lw : a.wear.length = b.wear.length
  bad : ∀ j, j < b.bad.length → eB b.bad j = true → eB a.bad j = true
  wear : ∀ j, j < b.wear.length → eI b.wear j ≤ eI a.wear j
  seq : b.seq ≤ a.seq
theorem Le.refl (a : MS) : Le a a := ⟨rfl, rfl, fun _ _ h => h, fun _ _ => Int.le_refl _, Int.le_refl _⟩
theorem Le.trans {a b c : MS} (h : Le a b) (h' : Le b c) : Le a c :=
  ⟨h'.lb.trans h.lb, h'.lw.trans h.lw, fun j hj e => h'.bad j (by rw [h.lb]; exact hj) (h.bad j hj e), fun j hj => Int.le_trans (h.wear j hj) (h'.wear j (by rw [h.lw]; exact hj)), Int.le_trans h.seq h'.seq⟩
theorem Le.join {a b : MS} (h : Le b a) (hl : b.wear.length = b.bad.length) : joinMS a b = a := by
  have hL := joinMS_lens a b
  refine extMS (extB hL.1 fun j hj => ?_) (extI hL.2 fun j hj => ?_) ?_
  · rw [hL.1] at hj
    have hb := h.lb
    show eB (upB a.bad 0 b.bad.length b.bad) j = _
    rw [upB_e hj (by omega)]
    cases hq : eB b.bad j with
    | false => simp
    | true => rw [h.bad j (by omega) hq]; rfl
  · rw [hL.2] at hj
    have hb := h.lw
    show eI (upW a.wear 0 b.bad.length b.wear) j = _
    rw [upW_e hj (by omega)]
    have := h.wear j (by omega)
    omega
  · show max a.seq b.seq = a.seq
    have := h.seq
    omega
theorem Le.covers {a b : MS} (h : Le b a) (ha : okMS a = true) (hb : okMS b = true) : coversB a b = true :=
  covers_of (joinE_iff.2 ⟨ha, hb, h.lb⟩) (h.join (okMS_iff.1 hb).2.1)
theorem eB_set {B : List Bool} {k j : Nat} : eB (B.set k true) j = (eB B j || (decide (j = k) && decide (k < B.length))) := by
  by_cases e : k = j
  · subst e
    by_cases h : k < B.length
    · simp [eB, h]
    · rw [List.set_eq_of_length_le (by omega)]; simp [h]
  · have : ¬ j = k := fun h => e h.symm
    simp [eB, List.getElem?_set_ne e, this]
theorem learnR_le (s : MS) (r : MR) : Le s (learnR s r) := by
  have hl := learnR_len s r
  refine ⟨hl.1, hl.2, fun j hj e => ?_, fun j hj => ?_, ?_⟩
  · unfold learnR
    split
    · show eB (s.bad.set _ true) j = true
      rw [eB_set, e]; rfl
    · split
      · exact e
      · split <;> exact e
  · unfold learnR
    split
    · exact Int.le_refl _
    · split
      · show _ ≤ eI (s.wear.set _ _) j
        by_cases h : r.block.toNat = j
        · subst h
          rw [eI_set_self hj]; omega
        · rw [eI_set_ne h]; exact Int.le_refl _
      · split <;> exact Int.le_refl _
  · unfold learnR
    split
    · exact Int.le_refl _
    · split
      · exact Int.le_refl _
      · split
        · show s.seq ≤ max s.seq _; omega
        · exact Int.le_refl _
theorem foldR_le (s : MS) (l : List MR) : Le s (l.foldl learnR s) := by
  induction l generalizing s with
  | nil => exact Le.refl _
  | cons r l ih => rw [List.foldl_cons]; exact (learnR_le s r).trans (ih _)
theorem okMR_facts {r : MR} (h : okMR r = true) : (r.kind = 1 ∧ 0 ≤ r.block ∧ r.block ≤ 255 ∧ r.value = 0) ∨ (r.kind = 2 ∧ 0 ≤ r.block ∧ r.block ≤ 255 ∧ okWear r.value = true) ∨ (r.kind = 3 ∧ r.block = 0 ∧ 0 ≤ r.value ∧ r.value ≤ 1152921504606846976) := by
  unfold okMR at h
  split at h
  · left; rename_i hk; simp at h; omega
  · split at h
    · right; left; rename_i hk; simp at h; exact ⟨hk, h.1.1, h.1.2, h.2⟩
    · split at h
      · right; right; rename_i hk; simp at h; exact ⟨hk, h.1, h.2.1, h.2.2⟩
      · cases h
theorem learnR_ok {s : MS} {r : MR} (hs : okMS s = true) (hr : okMR r = true) : okMS (learnR s r) = true := by
  obtain ⟨h1, h2, h3, h4, h5⟩ := okMS_iff.1 hs
  have hl := learnR_len s r
  rw [okMS_iff, hl.1, hl.2]
  refine ⟨h1, h2, ?_, ?_⟩
  · rw [eI_all, hl.2]
    intro j hj
    have hw := eI_all.1 h3 j hj
    rcases okMR_facts hr with ⟨hk, -⟩ | ⟨hk, hb0, hb1, hv⟩ | ⟨hk, -⟩
    · unfold learnR; rw [if_pos hk]; exact hw
    · unfold learnR; rw [if_neg (by omega), if_pos hk]
      show okWear (eI (s.wear.set _ _) j) = true
      by_cases h : r.block.toNat = j
      · subst h
        rw [eI_set_self hj]
        rw [okWear_iff] at *
        omega
      · rw [eI_set_ne h]; exact hw
    · unfold learnR; rw [if_neg (by omega), if_neg (by omega), if_pos hk]; exact hw
  · rcases okMR_facts hr with ⟨hk, -⟩ | ⟨hk, -⟩ | ⟨hk, -, hv0, hv1⟩
    · unfold learnR; rw [if_pos hk]; exact ⟨h4, h5⟩
    · unfold learnR; rw [if_neg (by omega), if_pos hk]; exact ⟨h4, h5⟩
    · unfold learnR; rw [if_neg (by omega), if_neg (by omega), if_pos hk]
      show 0 ≤ max s.seq r.value ∧ max s.seq r.value ≤ _
      omega
theorem foldR_ok {s : MS} {l : List MR} (hs : okMS s = true) (hl : ∀ r ∈ l, okMR r = true) : okMS (l.foldl learnR s) = true := by
  induction l generalizing s with
  | nil => exact hs
  | cons r l ih => rw [List.foldl_cons]; exact ih (learnR_ok hs (hl r List.mem_cons_self)) (fun q hq => hl q (List.mem_cons_of_mem _ hq))
theorem applyR_e {s : MS} {l : List MR} : (applyR s l).2 = 0 ↔ okMS s = true ∧ l.all (okFor s.bad.length) = true := by
  unfold applyR
  constructor
  · intro h
    split at h
    · rename_i h1
      split at h
      · rename_i h2; exact ⟨h1, h2⟩
      · cases h
    · cases h
  · rintro ⟨h1, h2⟩; rw [if_pos h1, if_pos h2]
theorem applyR_ok {s : MS} {l : List MR} (h1 : okMS s = true) (h2 : l.all (okFor s.bad.length) = true) : applyR s l = (l.foldl learnR s, 0) := by
  unfold applyR; rw [if_pos h1, if_pos h2]
/-- Records in the other order, and twice. -/
theorem apply_back {s : MS} {l : List MR} (h : (applyR s l).2 = 0) : applyR s (l.reverse ++ l) = applyR s l := by
  obtain ⟨h1, h2⟩ := applyR_e.1 h
  rw [applyR_ok h1 h2, applyR_ok h1 (by rw [List.all_append, List.all_reverse, h2]; rfl), foldR_back]
theorem apply_covers {s : MS} {l : List MR} (h : (applyR s l).2 = 0) : coversB (applyR s l).1 s = true := by
  obtain ⟨h1, h2⟩ := applyR_e.1 h
  rw [applyR_ok h1 h2]
  refine (foldR_le s l).covers (foldR_ok h1 fun r hr => ?_) h1
  have := List.all_eq_true.1 h2 r hr
  simp [okFor] at this
  exact this.1
end Go.Proofs.Ytpikaagdiafieaa
