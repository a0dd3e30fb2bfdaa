/-
  The plain heart of P2.5: what is read covers what was programmed.
-/
import Derived.Test.YthafcnilhloldaaNCountsP
namespace Go.Proofs.Ythafcnilhloldaa
open Go.RowKit
theorem cov1_self (x : Nat) : cov1 x x = true := by simp [cov1]
theorem cov1_trans {a b c : Nat} (h : cov1 a b = true) (k : cov1 b c = true) : cov1 a c = true := by
  simp only [cov1, beq_iff_eq] at *
  have e : a ||| c = (a ||| b) ||| c := by rw [h]
  rw [e, Nat.or_assoc, k, h]
theorem covers_self (x : List Nat) : covers x x = true := (covers_iff x x).2 ⟨rfl, fun _ _ => cov1_self _⟩
theorem covers_trans {a b c : List Nat} (h : covers a b = true) (k : covers b c = true) : covers a c = true := by
  obtain ⟨l1, h1⟩ := (covers_iff a b).1 h
  obtain ⟨l2, h2⟩ := (covers_iff b c).1 k
  exact (covers_iff a c).2 ⟨l1.trans l2, fun i hi => cov1_trans (h1 i hi) (h2 i (by omega))⟩
theorem mask_covers (x m : List Nat) : covers (maskL x m) x = true := (covers_iff _ _).2 ⟨maskL_length x m, fun i _ => maskL_cov x m i⟩
theorem torn_covers (x : List Nat) (e : Ev) : covers (tornX x e) x = true := by
  unfold tornX
  split
  · exact covers_self x
  · exact mask_covers x e.mask
theorem covers_part {a b : List Nat} (h : covers a b = true) (o n : Nat) : covers ((a.drop o).take n) ((b.drop o).take n) = true := by
  obtain ⟨l, h1⟩ := (covers_iff a b).1 h
  refine (covers_iff _ _).2 ⟨by simp [l], fun i hi => ?_⟩
  simp only [List.length_take, List.length_drop] at hi
  have := h1 (o + i) (by omega)
  rw [List.getD_eq_getElem?_getD, List.getD_eq_getElem?_getD] at this ⊢
  rwa [List.getElem?_take_of_lt (by omega), List.getElem?_take_of_lt (by omega), List.getElem?_drop, List.getElem?_drop]
set_option maxRecDepth 100000 in
theorem or_all : ∀ x : Fin 256, x.1 ||| 255 = 255 := by decide
/-- What covers an erased page is one. -/
theorem cov_blank {q : List Nat} (hq : IsP q) (h : covers q blankP = true) : q = blankP := by
  obtain ⟨l, h1⟩ := (covers_iff q blankP).1 h
  apply List.ext_getElem l
  intro i hi hi2
  have := h1 i hi
  have hb := hq.2 _ (List.getElem_mem hi)
  simp only [List.getD_eq_getElem?_getD, List.getElem?_eq_getElem hi, List.getElem?_eq_getElem hi2, Option.getD_some, cov1, beq_iff_eq] at this
  have e : (List.replicate 288 255)[i]'hi2 = 255 := List.getElem_replicate _
  have this' : q[i] ||| (List.replicate 288 255)[i]'hi2 = q[i] := this
  rw [e] at this'
  show q[i] = (List.replicate 288 255)[i]'hi2
  rw [e, ← this']
  exact or_all ⟨q[i], hb⟩
/-- The page at a place. -/
def pgAt (s : St) (t : Int) (i : Nat) : List Nat := ((pagesOf s t)[i]?).getD blankP
theorem pgAt_blk {s : St} {t : Int} {k : BlkS} {i : Nat} (h : blkAt s t = some k) (hi : i < s.np) : pgAt s t i = k.pages.getD i blankP := by
  unfold pgAt pagesOf
  rw [h]
  show ((allP s.np k)[i]?).getD blankP = _
  rw [allP_get, if_pos hi]
  rfl
theorem pgAt_isP {w : World} {c : Nat} {s : St} {bb : Nat} {PV : Nat → Value} (hC : ChipIn w c s bb PV) (t : Int) (i : Nat) : IsP (pgAt s t i) := by
  unfold pgAt
  cases h : (pagesOf s t)[i]? with
  | none => exact isP_fill 255 (by omega)
  | some p => exact (pagesOf_isP hC t).1 p (List.mem_of_getElem? h)
theorem pgAt_get {s : St} {t : Int} {i : Nat} (h : i < (pagesOf s t).length) : (pagesOf s t)[i]? = some (pgAt s t i) := by
  unfold pgAt
  rw [List.getElem?_eq_getElem h]; rfl
/-- What Program leaves. -/
theorem prog_side {w : World} {c : Nat} {s : St} {bb : Nat} {PV : Nat → Value} (hC : ChipIn w c s bb PV) (hev : Kinds s) (b p : Int) (x : List Nat) :
    (progSt s b p x = s ∧ ¬ progE s b p = 0 ∧ ¬ progE s b p = 25) ∨
    ((progE s b p = 0 ∨ progE s b p = 25 ∨ progE s b p = 8) ∧ (0 ≤ b ∧ b < 256) ∧ (0 ≤ p ∧ p < 32) ∧ lkN s b ≤ p ∧ lkN (progSt s b p x) b = p + 1 ∧ covers (pgAt (progSt s b p x) b p.toNat) x = true ∧ ∀ t (i : Nat), ¬ (t = b ∧ (i : Int) = p) → pgAt (progSt s b p x) t i = pgAt s t i) := by
  rcases prog_counts hC hev b p x with ⟨h, hs⟩ | ⟨h, p1, p2, p3, p4, p5, p6, p7⟩
  · refine .inl ⟨hs, fun e => ?_, fun e => ?_⟩
    · rw [e] at h; simp [isB] at h
    · rw [e] at h; simp [isB] at h
  · refine .inr ⟨?_, p3, p4, p5, p6, ?_, fun t i hn => ?_⟩
    · simp only [isB, Bool.or_eq_true, Bool.and_eq_true, beq_iff_eq] at h
      rcases h with (h | h) | h
      · exact .inl h
      · exact .inr (.inl h)
      · exact .inr (.inr h.1.1)
    · by_cases hr : reachE s.nb s.np s.on b p = 0
      · obtain ⟨bk, pk, rfl, rfl, hbk, hpk, hon⟩ := reach_ok hr
        obtain ⟨k, hk⟩ := hC.get bk hbk
        have hlim := hC.lim k (List.mem_of_getElem? hk)
        have hne : progSt s bk pk x ≠ s := fun e => by rw [e] at p1; omega
        by_cases hbad : k.bad = true
        · exact absurd (show progSt s bk pk x = s by simp [progSt, hr, hk, hbad]) hne
        · by_cases hlt : pk < k.next
          · exact absurd (show progSt s bk pk x = s by simp [progSt, hr, hk, hbad, hlt]) hne
          · have e2 : progSt s bk pk x = stepSt s bk { k with pages := putP k.pages pk (tornX x (nextEv s.ev (s.ops + 1))), next := pk + 1 } := by simp [progSt, hr, hk, hbad, hlt]
            rw [e2, Int.toNat_natCast, pgAt_blk (stepSt_own (by rw [hC.bll]; exact hbk)) (show pk < s.np from hpk)]
            show covers ((putP k.pages pk (tornX x (nextEv s.ev (s.ops + 1)))).getD pk blankP) x = true
            rw [putP_getD _ _ _ (by omega), if_pos rfl]
            exact torn_covers _ _
      · have hs : progSt s b p x = s := by simp [progSt, hr]
        rw [hs] at p1; omega
    · unfold pgAt
      rw [(prog_pages hC hev b p x t i).1 hn]
theorem trimN_blank (ps : List (List Nat)) : ∀ n i, trimN ps n ≤ i → i < n → ps.getD i [] = blankP
  | 0, _, _, h => by omega
  | n + 1, i, h, hi => by
    unfold trimN at h
    split at h
    · next hb =>
      rcases Nat.lt_succ_iff_lt_or_eq.1 hi with h' | h'
      · exact trimN_blank ps n i h h'
      · rw [h']; exact hb
    · omega
theorem trimP_getD (ps : List (List Nat)) (i : Nat) : (trimP ps).getD i blankP = ps.getD i blankP := by
  unfold trimP
  rw [List.getD_eq_getElem?_getD, List.getD_eq_getElem?_getD]
  by_cases h : i < trimN ps ps.length
  · rw [List.getElem?_take_of_lt h]
  · rw [List.getElem?_eq_none (l := ps.take _) (by rw [List.length_take]; omega)]
    by_cases hi : i < ps.length
    · have := trimN_blank ps ps.length i (by omega) hi
      rw [List.getD_eq_getElem?_getD, List.getElem?_eq_getElem hi] at this
      rw [List.getElem?_eq_getElem hi]
      exact this.symm
    · rw [List.getElem?_eq_none (by omega)]
theorem tornPs_get {np : Nat} {k : BlkS} (hP : ∀ p ∈ allP np k, IsP p) (m : List Nat) {i : Nat} (hi : i < np) : covers ((tornPs np k m).getD i blankP) (k.pages.getD i blankP) = true := by
  have e : (tornPs np k m).getD i blankP = ((maskL (allP np k).flatten m).drop (i * 288)).take 288 := by
    simp [tornPs, chunk, List.getD_eq_getElem?_getD, hi]
  have ho : (allP np k)[i]? = some (k.pages.getD i blankP) := by rw [allP_get, if_pos hi]
  rw [e, ← flat_part hP i _ ho]
  exact covers_part (mask_covers _ _) _ _
/-- What Erase leaves. -/
theorem erase_side {w : World} {c : Nat} {s : St} {bb : Nat} {PV : Nat → Value} (hC : ChipIn w c s bb PV) (hev : Kinds s) (b : Int) (t : Int) (i : Nat) (hi : i < s.np) :
    (eraseE s b = 0 → t = b → pgAt (eraseSt s b) t i = blankP) ∧ (¬ (eraseE s b = 0 ∧ t = b) → covers (pgAt (eraseSt s b) t i) (pgAt s t i) = true) := by
  by_cases ht : t = b
  · subst ht
    by_cases hr : reachE s.nb s.np s.on t 0 = 0
    · obtain ⟨bk, hbk, rfl⟩ : ∃ bk : Nat, bk < s.nb ∧ t = (bk : Int) := by obtain ⟨bk, _, hb, _, hbk, _⟩ := reach_ok hr; exact ⟨bk, hbk, hb⟩
      obtain ⟨k, hk⟩ := hC.get bk hbk
      by_cases hbad : k.bad = true
      · have e1 : eraseE s bk = 23 := by simp [eraseE, hr, hk, hbad]
        have e2 : eraseSt s bk = s := by simp [eraseSt, hr, hk, hbad]
        rw [e1, e2]
        exact ⟨(fun h => by cases h), fun _ => covers_self _⟩
      · have e1 : eraseE s bk = outE (nextEv s.ev (s.ops + 1)).kind := by simp [eraseE, hr, hk, hbad]
        have e2 : eraseSt s bk = stepSt s bk (erasedB s.np k (nextEv s.ev (s.ops + 1))) := by simp [eraseSt, hr, hk, hbad]
        have hold : blkAt s (bk : Int) = some k := by rw [blkAt_nat]; exact hk
        have hP : ∀ p ∈ allP s.np k, IsP p := allP_isP (hC.pg bk k hk) s.np
        rw [e1, e2, pgAt_blk (stepSt_own (by rw [hC.bll]; exact hbk)) (show i < s.np from hi), pgAt_blk hold hi]
        rcases kind_cases hev (s.ops + 1) with e | e | e
        · have eb : (erasedB s.np k (nextEv s.ev (s.ops + 1))).pages = [] := by unfold erasedB; rw [if_neg (by omega), if_neg (by omega)]
          rw [eb, e]
          exact ⟨fun _ _ => rfl, fun h => absurd ⟨rfl, rfl⟩ h⟩
        · have eb : (erasedB s.np k (nextEv s.ev (s.ops + 1))).pages = trimP (tornPs s.np k (nextEv s.ev (s.ops + 1)).mask) := by unfold erasedB; rw [if_pos e]
          rw [eb, e, trimP_getD]
          exact ⟨(fun h => by cases h), fun _ => tornPs_get hP _ hi⟩
        · have eb : (erasedB s.np k (nextEv s.ev (s.ops + 1))).pages = trimP (tornPs s.np k (nextEv s.ev (s.ops + 1)).mask) := by unfold erasedB; rw [if_neg (by omega), if_pos e]
          rw [eb, e, trimP_getD]
          exact ⟨(fun h => by cases h), fun _ => tornPs_get hP _ hi⟩
    · have e1 : eraseE s t = reachE s.nb s.np s.on t 0 := by simp [eraseE, hr]
      have e2 : eraseSt s t = s := by simp [eraseSt, hr]
      rw [e1, e2]
      exact ⟨fun h => absurd h hr, fun _ => covers_self _⟩
  · refine ⟨fun _ h => absurd h ht, fun _ => ?_⟩
    have : pgAt (eraseSt s b) t i = pgAt s t i := by unfold pgAt; rw [(erase_pages hC b t).1 ht]
    rw [this]
    exact covers_self _
/-- What the law keeps of each page; what it holds it against. -/
def Inv (s : St) (was : Int → Option (List Nat)) : Prop := ∀ (t : Int) (i : Nat), 0 ≤ t → i < s.np → covers (pgAt s t i) ((was (64 * t + i)).getD blankP) = true
/-- Whether the law takes a program for one that was done. -/
def upd (e : Int) (n pg : Int) (ch : Bool) : Bool := (e == 0) || (e == 25) || ((e == 8) && decide (n ≤ pg) && ch)
theorem inv_prog {w : World} {c : Nat} {s : St} {bb : Nat} {PV : Nat → Value} (hC : ChipIn w c s bb PV) (hev : Kinds s) (o : CallS) (h0 : o.od = 0) (was : Int → Option (List Nat)) (hI : Inv s was) :
    (doesSt s o = s ∧ ¬ doesE s o = 0 ∧ ¬ doesE s o = 25) ∨
    ((doesE s o = 0 ∨ doesE s o = 25 ∨ doesE s o = 8) ∧ (0 ≤ o.ob ∧ o.ob < 256) ∧ (0 ≤ pgOf s o ∧ pgOf s o < 32) ∧ lkN s o.ob ≤ pgOf s o ∧ lkN (doesSt s o) o.ob = pgOf s o + 1 ∧ Inv (doesSt s o) (fun k => if k = 64 * o.ob + pgOf s o then some (fillP o.f) else was k)) := by
  have e1 : doesE s o = progE s o.ob (pgOf s o) := by unfold doesE; rw [if_pos h0]
  have e2 : doesSt s o = progSt s o.ob (pgOf s o) (fillP o.f) := by unfold doesSt; rw [if_pos h0]
  have hnp := hC.npl
  rw [e1, e2]
  rcases prog_side hC hev o.ob (pgOf s o) (fillP o.f) with h | ⟨q1, q2, q3, q4, q5, q6, q7⟩
  · exact .inl h
  · refine .inr ⟨q1, q2, q3, q4, q5, fun t i ht hi => ?_⟩
    have hi' : i < s.np := by rwa [(progSt_facts s o.ob (pgOf s o) (fillP o.f)).2.1] at hi
    dsimp only
    by_cases hk : 64 * t + (i : Int) = 64 * o.ob + pgOf s o
    · have h1 : t = o.ob ∧ (i : Int) = pgOf s o := by omega
      obtain ⟨rfl, hi2⟩ := h1
      rw [if_pos hk, show i = (pgOf s o).toNat from by omega]
      exact q6
    · have h1 : ¬ (t = o.ob ∧ (i : Int) = pgOf s o) := fun ⟨a, b⟩ => hk (by rw [a, b])
      rw [if_neg hk, q7 t i h1]
      exact hI t i ht hi'
theorem inv_erase {w : World} {c : Nat} {s : St} {bb : Nat} {PV : Nat → Value} (hC : ChipIn w c s bb PV) (hev : Kinds s) (o : CallS) (h1 : o.od = 1) (was : Int → Option (List Nat)) (hI : Inv s was) :
    (doesE s o = 0 → Inv (doesSt s o) (fun k => if 64 * o.ob ≤ k ∧ k < 64 * o.ob + s.np then none else was k)) ∧ (¬ doesE s o = 0 → Inv (doesSt s o) was) := by
  have e1 : doesE s o = eraseE s o.ob := by unfold doesE; rw [if_neg (by omega), if_pos h1]
  have e2 : doesSt s o = eraseSt s o.ob := by unfold doesSt; rw [if_neg (by omega), if_pos h1]
  have hnp := hC.npl
  rw [e1, e2]
  have hnps : (eraseSt s o.ob).np = s.np := (eraseSt_facts s o.ob).2.1
  refine ⟨fun he t i ht hi => ?_, fun he t i ht hi => ?_⟩
  · rw [hnps] at hi
    dsimp only
    have hs := erase_side hC hev o.ob t i hi
    by_cases hto : t = o.ob
    · rw [hs.1 he hto, if_pos (by subst hto; omega)]
      exact covers_self _
    · rw [if_neg (by omega)]
      exact covers_trans (hs.2 (fun h => hto h.2)) (hI t i ht hi)
  · rw [hnps] at hi
    exact covers_trans ((erase_side hC hev o.ob t i hi).2 (fun h => he h.1)) (hI t i ht hi)
theorem inv_else {s : St} {o : CallS} (h0 : ¬ o.od = 0) (h1 : ¬ o.od = 1) {was : Int → Option (List Nat)} (hI : Inv s was) : Inv (doesSt s o) was := by
  unfold doesSt
  rw [if_neg h0, if_neg h1]
  split
  · exact hI
  · exact hI
end Go.Proofs.Ythafcnilhloldaa
