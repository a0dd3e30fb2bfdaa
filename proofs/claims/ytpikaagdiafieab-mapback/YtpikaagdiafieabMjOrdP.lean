/-
  The plain heart of P6.7: pages in any order, or twice, know the same together.
-/
import Derived.Test.YtpikaagdiafieabMjReplay
namespace Go.Proofs.Ytpikaagdiafieab
open Go.RowKit
theorem upB_eg {B : List Bool} {f k : Nat} {b : List Bool} {j : Nat} (h : j < B.length) : eB (upB B f k b) j = (eB B j || (decide (f ≤ j) && (decide (j < f + k) && eB b (j - f)))) := by
  rw [eB_at (by rw [upB_length]; exact h), upB_get h, eB_at h]
theorem upW_eg {B : List Int} {f k : Nat} {b : List Int} {j : Nat} (h : j < B.length) : eI (upW B f k b) j = if f ≤ j ∧ j < f + k then max (eI B j) (eI b (j - f)) else eI B j := by
  rw [eI_at (by rw [upW_length]; exact h), upW_get h, eI_at h]
/-- A state of n blocks. -/
structure Sz (n : Nat) (s : MS) : Prop where
  b : s.bad.length = n
  w : s.wear.length = n
theorem Sz.join {n : Nat} {s t : MS} (h : Sz n s) : Sz n (joinMS s t) := ⟨(joinMS_lens s t).1.trans h.b, (joinMS_lens s t).2.trans h.w⟩
theorem Sz.learn {n : Nat} {s : MS} (h : Sz n s) (r : MR) : Sz n (learnR s r) := ⟨(learnR_len s r).1.trans h.b, (learnR_len s r).2.trans h.w⟩
theorem learnR_join {s t : MS} {n : Nat} (hs : Sz n s) (ht : Sz n t) (r : MR) : learnR (joinMS s t) r = joinMS s (learnR t r) := by
  obtain ⟨s1, s2⟩ := hs
  obtain ⟨t1, t2⟩ := ht
  unfold learnR
  by_cases k1 : r.kind = 1
  · rw [if_pos k1, if_pos k1]
    refine extMS (extB ?_ fun j hj => ?_) ?_ rfl
    · show ((upB s.bad 0 t.bad.length t.bad).set r.block.toNat true).length = (upB s.bad 0 (t.bad.set r.block.toNat true).length (t.bad.set r.block.toNat true)).length
      rw [List.length_set, upB_length, upB_length]
    · have hj' : j < n := by
        have hj2 : j < ((upB s.bad 0 t.bad.length t.bad).set r.block.toNat true).length := hj
        rw [List.length_set, upB_length] at hj2; omega
      show eB ((upB s.bad 0 t.bad.length t.bad).set r.block.toNat true) j = eB (upB s.bad 0 (t.bad.set r.block.toNat true).length (t.bad.set r.block.toNat true)) j
      rw [eB_set, upB_e (by omega) (by omega), upB_e (by omega) (by rw [List.length_set]; omega), eB_set, upB_length, s1, t1, Bool.or_assoc]
    · show upW s.wear 0 t.bad.length t.wear = upW s.wear 0 (t.bad.set r.block.toNat true).length t.wear
      rw [List.length_set]
  · rw [if_neg k1, if_neg k1]
    by_cases k2 : r.kind = 2
    · rw [if_pos k2, if_pos k2]
      refine extMS rfl (extI ?_ fun j hj => ?_) rfl
      · show ((upW s.wear 0 t.bad.length t.wear).set r.block.toNat _).length = (upW s.wear 0 t.bad.length (t.wear.set r.block.toNat _)).length
        rw [List.length_set, upW_length, upW_length]
      · have hj' : j < n := by
          have hj2 : j < ((upW s.wear 0 t.bad.length t.wear).set r.block.toNat (max (eI (upW s.wear 0 t.bad.length t.wear) r.block.toNat) r.value)).length := hj
          rw [List.length_set, upW_length] at hj2; omega
        show eI ((upW s.wear 0 t.bad.length t.wear).set r.block.toNat (max (eI (upW s.wear 0 t.bad.length t.wear) r.block.toNat) r.value)) j = eI (upW s.wear 0 t.bad.length (t.wear.set r.block.toNat (max (eI t.wear r.block.toNat) r.value))) j
        rw [upW_e (B := s.wear) (b := t.wear.set r.block.toNat (max (eI t.wear r.block.toNat) r.value)) (by omega) (by omega)]
        by_cases e : r.block.toNat = j
        · rw [e, eI_set_self (by rw [upW_length]; omega), eI_set_self (by omega), upW_e (by omega) (by omega)]; omega
        · rw [eI_set_ne e, eI_set_ne e, upW_e (by omega) (by omega)]
    · rw [if_neg k2, if_neg k2]
      by_cases k3 : r.kind = 3
      · rw [if_pos k3, if_pos k3]
        refine extMS rfl rfl ?_
        show max (max s.seq t.seq) r.value = max s.seq (max t.seq r.value)
        omega
      · rw [if_neg k3, if_neg k3]
theorem recsN_sz {n : Nat} {s : MS} (h : Sz n s) (l : List MR) : Sz n (recsN n s l) := by
  induction l generalizing s with
  | nil => exact h
  | cons r l ih =>
    have e : recsN n s (r :: l) = recsN n (if r.block < (n : Int) then learnR s r else s) l := rfl
    rw [e]
    split
    · exact ih (h.learn r)
    · exact ih h
theorem recsN_join {s t : MS} {n : Nat} (hs : Sz n s) (ht : Sz n t) (l : List MR) : recsN n (joinMS s t) l = joinMS s (recsN n t l) := by
  induction l generalizing t with
  | nil => rfl
  | cons r l ih =>
    have e : ∀ u : MS, recsN n u (r :: l) = recsN n (if r.block < (n : Int) then learnR u r else u) l := fun _ => rfl
    rw [e, e]
    by_cases h : r.block < (n : Int)
    · rw [if_pos h, if_pos h, learnR_join hs ht, ih (ht.learn r)]
    · rw [if_neg h, if_neg h, ih ht]
theorem learnP_sz {n : Nat} {s : MS} (h : Sz n s) (P : MP) : Sz n (learnP n s P) := by
  unfold learnP
  split
  · exact ⟨(upB_length _ _ _ _).trans h.b, (upW_length _ _ _ _).trans h.w⟩
  · exact recsN_sz h _
theorem learnP_join {s t : MS} {n : Nat} (hs : Sz n s) (ht : Sz n t) (P : MP) : learnP n (joinMS s t) P = joinMS s (learnP n t P) := by
  unfold learnP
  by_cases k1 : P.kind = 1
  · rw [if_pos k1, if_pos k1]
    obtain ⟨s1, s2⟩ := hs
    obtain ⟨t1, t2⟩ := ht
    generalize (P.part * 64).toNat = f
    generalize min P.bad.length (n - f) = k
    refine extMS (extB ?_ fun j hj => ?_) (extI ?_ fun j hj => ?_) ?_
    · show (upB (upB s.bad 0 t.bad.length t.bad) f k P.bad).length = (upB s.bad 0 (upB t.bad f k P.bad).length (upB t.bad f k P.bad)).length
      rw [upB_length, upB_length, upB_length]
    · have hj' : j < n := by
        have hj2 : j < (upB (upB s.bad 0 t.bad.length t.bad) f k P.bad).length := hj
        rw [upB_length, upB_length] at hj2; omega
      show eB (upB (upB s.bad 0 t.bad.length t.bad) f k P.bad) j = eB (upB s.bad 0 (upB t.bad f k P.bad).length (upB t.bad f k P.bad)) j
      rw [upB_eg (by rw [upB_length]; omega), upB_e (by omega) (by omega), upB_e (by omega) (by rw [upB_length]; omega), upB_eg (by omega), Bool.or_assoc]
    · show (upW (upW s.wear 0 t.bad.length t.wear) f k P.wear).length = (upW s.wear 0 (upB t.bad f k P.bad).length (upW t.wear f k P.wear)).length
      rw [upW_length, upW_length, upW_length]
    · have hj' : j < n := by
        have hj2 : j < (upW (upW s.wear 0 t.bad.length t.wear) f k P.wear).length := hj
        rw [upW_length, upW_length] at hj2; omega
      show eI (upW (upW s.wear 0 t.bad.length t.wear) f k P.wear) j = eI (upW s.wear 0 (upB t.bad f k P.bad).length (upW t.wear f k P.wear)) j
      rw [upW_eg (by rw [upW_length]; omega), upW_e (by omega) (by omega), upW_e (by omega) (by rw [upB_length]; omega), upW_eg (by omega)]
      split <;> omega
    · show max (max s.seq t.seq) P.seq = max s.seq (max t.seq P.seq)
      omega
  · rw [if_neg k1, if_neg k1]
    exact recsN_join hs ht _
/-- A state of n blocks that may be. -/
structure Good (n : Nat) (s : MS) : Prop where
  ok : okMS s = true
  sz : s.bad.length = n
theorem Good.Sz {n : Nat} {s : MS} (h : Good n s) : Sz n s := ⟨h.sz, (okMS_iff.1 h.ok).2.1.trans h.sz⟩
theorem newMS_sz (n : Nat) : Sz n (newMS n) := ⟨by simp [newMS], by simp [newMS]⟩
theorem newMS_le {n : Nat} {s : MS} (h : Good n s) : Le (newMS n) s := by
  obtain ⟨h1, h2, h3, h4, h5⟩ := okMS_iff.1 h.ok
  refine ⟨by rw [(newMS_sz n).b, h.sz], by rw [(newMS_sz n).w, h2, h.sz], fun j hj e => ?_, fun j hj => ?_, h4⟩
  · simp [newMS, eB, List.getElem?_replicate] at e
    split at e <;> simp at e
  · rw [(newMS_sz n).w] at hj
    have hw := eI_all.1 h3 j (by rw [h2, h.sz]; exact hj)
    rw [okWear_iff] at hw
    have e : eI (newMS n).wear j = 0 := by simp [newMS, eI, hj]
    omega
theorem join_new {n : Nat} {s : MS} (h : Good n s) : joinMS s (newMS n) = s := (newMS_le h).join (by simp [newMS])
/-- What a page knows. -/
def knowP (n : Nat) (P : MP) : MS := learnP n (newMS n) P
theorem learnP_eq {n : Nat} {s : MS} (h : Good n s) (P : MP) : learnP n s P = joinMS s (knowP n P) := by
  have := learnP_join h.Sz (newMS_sz n) P
  rw [join_new h] at this
  exact this
theorem recsN_good {n : Nat} {s : MS} (h : Good n s) {l : List MR} (hl : l.all okMR = true) : Good n (recsN n s l) := by
  induction l generalizing s with
  | nil => exact h
  | cons r l ih =>
    have e : recsN n s (r :: l) = recsN n (if r.block < (n : Int) then learnR s r else s) l := rfl
    rw [e]
    simp only [List.all_cons, Bool.and_eq_true] at hl
    split
    · exact ih ⟨learnR_ok h.ok hl.1, (learnR_len s r).1.trans h.sz⟩ hl.2
    · exact ih h hl.2
theorem learnP_good {n : Nat} {s : MS} (h : Good n s) {P : MP} (hP : okMP P = true) : Good n (learnP n s P) := by
  refine ⟨?_, (learnP_sz h.Sz P).b⟩
  obtain ⟨hg, hk⟩ := okMP_iff.1 hP
  rcases hk with ⟨k1, hp, hs, hn, hm, hw, hr⟩ | ⟨k2, hp, hs, hn, hm, hr, hall⟩
  · obtain ⟨h1, h2, h3, h4, h5⟩ := okMS_iff.1 h.ok
    have hz := learnP_sz h.Sz P
    rw [okMS_iff, hz.b, hz.w]
    have hsz := h.sz
    refine ⟨by omega, rfl, ?_, ?_⟩
    · rw [eI_all, hz.w]
      intro j hj
      unfold learnP
      rw [if_pos k1]
      show okWear (eI (upW s.wear _ _ P.wear) j) = true
      rw [upW_eg (by omega)]
      have hwj := eI_all.1 h3 j (by omega)
      split
      · rename_i hc
        have hpj := eI_all.1 hw (j - (P.part * 64).toNat) (by omega)
        rw [okWear_iff] at *
        omega
      · exact hwj
    · unfold learnP
      rw [if_pos k1]
      show 0 ≤ max s.seq P.seq ∧ max s.seq P.seq ≤ _
      have := hs.2
      omega
  · unfold learnP
    rw [if_neg (by omega)]
    exact (recsN_good h hall).ok
theorem good_new {n : Nat} (hn : 16 ≤ n ∧ n ≤ 256) : Good n (newMS n) := ⟨okMS_new hn, by simp [newMS]⟩
theorem knowP_good {n : Nat} (hn : 16 ≤ n ∧ n ≤ 256) {P : MP} (hP : okMP P = true) : Good n (knowP n P) := learnP_good (good_new hn) hP
theorem Good.size {n : Nat} {s : MS} (h : Good n s) : 16 ≤ n ∧ n ≤ 256 := by have := (okMS_iff.1 h.ok).1; rw [h.sz] at this; exact this
theorem Good.e {n : Nat} {s t : MS} (h : Good n s) (k : Good n t) : joinE s t = 0 := joinE_iff.2 ⟨h.ok, k.ok, h.sz.trans k.sz.symm⟩
theorem Good.join {n : Nat} {s t : MS} (h : Good n s) (k : Good n t) : Good n (joinMS s t) := ⟨join_ok (h.e k), (joinMS_lens s t).1.trans h.sz⟩
theorem join_swap {n : Nat} {a x y : MS} (ha : Good n a) (hx : Good n x) (hy : Good n y) : joinMS (joinMS a x) y = joinMS (joinMS a y) x := by
  rw [join_assoc (ha.e hx) (hx.e hy), join_comm (hx.e hy), ← join_assoc (ha.e hy) (hy.e hx)]
theorem le_join {n : Nat} {a x : MS} (ha : Good n a) (hx : Good n x) : Le a (joinMS a x) := by
  have hL := joinMS_lens a x
  have := ha.Sz.b; have := ha.Sz.w; have := hx.sz
  refine ⟨hL.1, hL.2, fun j hj e => ?_, fun j hj => ?_, ?_⟩
  · show eB (upB a.bad 0 x.bad.length x.bad) j = true
    rw [upB_e hj (by omega), e]; rfl
  · show _ ≤ eI (upW a.wear 0 x.bad.length x.wear) j
    rw [upW_e hj (by omega)]; omega
  · show a.seq ≤ max a.seq x.seq; omega
theorem stepP_eq {n : Nat} {t : MS × Int} (h : Good n t.1) {P : MP} (hP : okMP P = true) : stepP n t P = (joinMS t.1 (knowP n P), max t.2 P.gen) := by
  unfold stepP; rw [if_pos hP, learnP_eq h]
theorem stepP_no {n : Nat} {t : MS × Int} {P : MP} (hP : okMP P = false) : stepP n t P = t := by
  unfold stepP; rw [hP]; rfl
theorem stepP_good {n : Nat} {t : MS × Int} (h : Good n t.1) (P : MP) : Good n (stepP n t P).1 := by
  cases hP : okMP P with
  | false => rw [stepP_no hP]; exact h
  | true => rw [stepP_eq h hP]; exact h.join (knowP_good h.size hP)
theorem stepP_comm {n : Nat} {t : MS × Int} (h : Good n t.1) (P Q : MP) : stepP n (stepP n t P) Q = stepP n (stepP n t Q) P := by
  cases hP : okMP P with
  | false => rw [stepP_no hP, stepP_no hP]
  | true =>
    cases hQ : okMP Q with
    | false => rw [stepP_no hQ, stepP_no hQ]
    | true =>
      rw [stepP_eq (stepP_good h P) hQ, stepP_eq (stepP_good h Q) hP, stepP_eq h hP, stepP_eq h hQ]
      dsimp only
      rw [join_swap h (knowP_good h.size hP) (knowP_good h.size hQ), show max (max t.2 P.gen) Q.gen = max (max t.2 Q.gen) P.gen by omega]
theorem stepP_twice {n : Nat} {t : MS × Int} (h : Good n t.1) (P : MP) : stepP n (stepP n t P) P = stepP n t P := by
  cases hP : okMP P with
  | false => rw [stepP_no hP, stepP_no hP]
  | true =>
    rw [stepP_eq (stepP_good h P) hP, stepP_eq h hP]
    dsimp only
    rw [join_self' (h.e (knowP_good h.size hP)), show max (max t.2 P.gen) P.gen = max t.2 P.gen by omega]
theorem foldP_good {n : Nat} {t : MS × Int} (h : Good n t.1) (l : List MP) : Good n (l.foldl (stepP n) t).1 := by
  induction l generalizing t with
  | nil => exact h
  | cons P l ih => rw [List.foldl_cons]; exact ih (stepP_good h P)
theorem foldP_comm {n : Nat} {t : MS × Int} (h : Good n t.1) (P : MP) (l : List MP) : l.foldl (stepP n) (stepP n t P) = stepP n (l.foldl (stepP n) t) P := by
  induction l generalizing t with
  | nil => rfl
  | cons Q l ih => rw [List.foldl_cons, List.foldl_cons, stepP_comm h, ih (stepP_good h Q)]
theorem foldP_rev {n : Nat} {t : MS × Int} (h : Good n t.1) (l : List MP) : l.reverse.foldl (stepP n) t = l.foldl (stepP n) t := by
  induction l generalizing t with
  | nil => rfl
  | cons P l ih => rw [List.reverse_cons, List.foldl_append, ih h, List.foldl_cons, List.foldl_cons, List.foldl_nil, foldP_comm h]
theorem foldP_twice {n : Nat} {t : MS × Int} (h : Good n t.1) (l : List MP) : l.foldl (stepP n) (l.foldl (stepP n) t) = l.foldl (stepP n) t := by
  induction l generalizing t with
  | nil => rfl
  | cons P l ih => rw [List.foldl_cons, List.foldl_cons, ← foldP_comm (stepP_good h P), stepP_twice h, ih (stepP_good h P)]
/-- Pages in the other order, and twice. -/
theorem replayP_back {n : Nat} (hn : 16 ≤ n ∧ n ≤ 256) (l : List MP) : replayP n (l.reverse ++ l) = replayP n l := by
  unfold replayP
  rw [List.foldl_append, foldP_rev (good_new hn), foldP_twice (good_new hn)]
theorem stepP_le {n : Nat} {t : MS × Int} (h : Good n t.1) (P : MP) : Le t.1 (stepP n t P).1 ∧ t.2 ≤ (stepP n t P).2 := by
  cases hP : okMP P with
  | false => rw [stepP_no hP]; exact ⟨Le.refl _, Int.le_refl _⟩
  | true => rw [stepP_eq h hP]; exact ⟨le_join h (knowP_good h.size hP), by dsimp only; omega⟩
theorem foldP_le {n : Nat} {t : MS × Int} (h : Good n t.1) (l : List MP) : Le t.1 (l.foldl (stepP n) t).1 ∧ t.2 ≤ (l.foldl (stepP n) t).2 := by
  induction l generalizing t with
  | nil => exact ⟨Le.refl _, Int.le_refl _⟩
  | cons P l ih =>
    rw [List.foldl_cons]
    have h1 := stepP_le h P
    have h2 := ih (stepP_good h P)
    exact ⟨h1.1.trans h2.1, Int.le_trans h1.2 h2.2⟩
theorem replayP_good {n : Nat} (hn : 16 ≤ n ∧ n ≤ 256) (l : List MP) : Good n (replayP n l).1 := foldP_good (good_new hn) l
/-- Fewer pages know no more. -/
theorem replayP_take {n : Nat} (hn : 16 ≤ n ∧ n ≤ 256) (l : List MP) (k : Nat) : coversB (replayP n l).1 (replayP n (l.take k)).1 = true ∧ (replayP n (l.take k)).2 ≤ (replayP n l).2 := by
  have e : replayP n l = (l.drop k).foldl (stepP n) (replayP n (l.take k)) := by
    unfold replayP
    rw [← List.foldl_append, List.take_append_drop]
  have hg := replayP_good hn (l.take k)
  have h := foldP_le hg (l.drop k)
  rw [← e] at h
  exact ⟨h.1.covers (replayP_good hn l).ok hg.ok, h.2⟩
end Go.Proofs.Ytpikaagdiafieab
