/-
  The plain heart of layer 6: states, what two know together, what records make of a state.
-/
import Derived.Test.YtpikaagdiafieaaMjBase
namespace Go.Proofs.Ytpikaagdiafieaa
/-- A state of the map, as plain lists. -/
structure MS where
  bad : List Bool
  wear : List Int
  seq : Int
/-- A record. -/
structure MR where
  kind : Int
  block : Int
  value : Int
def okWear (x : Int) : Bool := decide (0 ≤ x) && decide (x ≤ 16777215)
theorem okWear_iff {x : Int} : okWear x = true ↔ 0 ≤ x ∧ x ≤ 16777215 := by simp [okWear]
theorem okWear_no {x : Int} (h : okWear x = false) : x < 0 ∨ 16777215 < x := by
  simp only [okWear, Bool.and_eq_false_iff, decide_eq_false_iff_not] at h; omega
/-- States that may be. -/
def okMS (s : MS) : Bool := (decide (16 ≤ s.bad.length) && decide (s.bad.length ≤ 256)) && (decide (s.wear.length = s.bad.length) && (s.wear.all okWear && (decide (0 ≤ s.seq) && decide (s.seq ≤ 1152921504606846976))))
def chkE (s : MS) : Int := if okMS s then 0 else 60
theorem okMS_iff {s : MS} : okMS s = true ↔ (16 ≤ s.bad.length ∧ s.bad.length ≤ 256) ∧ s.wear.length = s.bad.length ∧ s.wear.all okWear = true ∧ 0 ≤ s.seq ∧ s.seq ≤ 1152921504606846976 := by
  simp [okMS]
theorem chkE_ok {s : MS} (h : okMS s = true) : chkE s = 0 := by unfold chkE; rw [h]; rfl
theorem chkE_no {s : MS} (h : okMS s = false) : chkE s = 60 := by unfold chkE; rw [h]; rfl
theorem okMS_not {s : MS} (h : ¬ ((16 ≤ s.bad.length ∧ s.bad.length ≤ 256) ∧ s.wear.length = s.bad.length ∧ s.wear.all okWear = true ∧ 0 ≤ s.seq ∧ s.seq ≤ 1152921504606846976)) : okMS s = false := by
  cases hq : okMS s with
  | false => rfl
  | true => exact absurd (okMS_iff.1 hq) h
/-- Blocks from first on learnt from k of a row. -/
def upB (B : List Bool) (first k : Nat) (b : List Bool) : List Bool := B.mapIdx fun j x => x || (decide (first ≤ j) && (decide (j < first + k) && eB b (j - first)))
def upW (W : List Int) (first k : Nat) (v : List Int) : List Int := W.mapIdx fun j x => if first ≤ j ∧ j < first + k then max x (eI v (j - first)) else x
theorem upB_length (B : List Bool) (f k : Nat) (b : List Bool) : (upB B f k b).length = B.length := by simp [upB]
theorem upW_length (B : List Int) (f k : Nat) (b : List Int) : (upW B f k b).length = B.length := by simp [upW]
theorem upB_get {B : List Bool} {f k : Nat} {b : List Bool} {j : Nat} (h : j < B.length) : (upB B f k b)[j]'(by rw [upB_length]; exact h) = (B[j] || (decide (f ≤ j) && (decide (j < f + k) && eB b (j - f)))) := by simp [upB]
theorem upW_get {B : List Int} {f k : Nat} {b : List Int} {j : Nat} (h : j < B.length) : (upW B f k b)[j]'(by rw [upW_length]; exact h) = (if f ≤ j ∧ j < f + k then max B[j] (eI b (j - f)) else B[j]) := by simp [upW]
theorem upB_zero (B : List Bool) (f : Nat) (b : List Bool) : upB B f 0 b = B := by
  apply List.ext_getElem (upB_length _ _ _ _)
  intro j h1 h2
  rw [upB_get h2]
  by_cases h : f ≤ j
  · have : ¬ j < f := by omega
    simp [this]
  · simp [h]
theorem upW_zero (B : List Int) (f : Nat) (b : List Int) : upW B f 0 b = B := by
  apply List.ext_getElem (upW_length _ _ _ _)
  intro j h1 h2
  rw [upW_get h2, if_neg (by omega)]
theorem eB_at {B : List Bool} {j : Nat} (h : j < B.length) : eB B j = B[j] := by simp [eB, h]
theorem eI_at {B : List Int} {j : Nat} (h : j < B.length) : eI B j = B[j] := by simp [eI, h]
theorem upB_yes {B : List Bool} {f k : Nat} {b : List Bool} (h : eB b k = true) : (upB B f k b).set (f + k) true = upB B f (k + 1) b := by
  apply List.ext_getElem (by rw [List.length_set, upB_length, upB_length])
  intro j h1 h2
  rw [upB_length] at h2
  rw [upB_get h2, List.getElem_set, upB_get h2]
  by_cases e : f + k = j
  · subst e
    rw [if_pos rfl, Nat.add_sub_cancel_left, h]
    simp
  · rw [if_neg e]
    by_cases h3 : f ≤ j
    · by_cases h4 : j < f + k
      · have : j < f + (k + 1) := by omega
        simp [h4, this]
      · have : ¬ j < f + (k + 1) := by omega
        simp [h4, this]
    · simp [h3]
theorem upB_no {B : List Bool} {f k : Nat} {b : List Bool} (h : eB b k = false) : upB B f k b = upB B f (k + 1) b := by
  apply List.ext_getElem (by rw [upB_length, upB_length])
  intro j h1 h2
  rw [upB_length] at h2
  rw [upB_get h2, upB_get h2]
  by_cases e : f + k = j
  · subst e
    rw [Nat.add_sub_cancel_left, h]
    simp
  · by_cases h3 : f ≤ j
    · by_cases h4 : j < f + k
      · have : j < f + (k + 1) := by omega
        simp [h4, this]
      · have : ¬ j < f + (k + 1) := by omega
        simp [h4, this]
    · simp [h3]
theorem upW_old {W : List Int} {f k : Nat} {v : List Int} : eI (upW W f k v) (f + k) = eI W (f + k) := by
  by_cases h : f + k < W.length
  · rw [eI_at (by rw [upW_length]; exact h), upW_get h, if_neg (by omega), eI_at h]
  · rw [eI, eI, List.getD_eq_getElem?_getD, List.getD_eq_getElem?_getD, List.getElem?_eq_none (by rw [upW_length]; omega), List.getElem?_eq_none (by omega)]
theorem upW_next {W : List Int} {f k : Nat} {v : List Int} : (upW W f k v).set (f + k) (max (eI W (f + k)) (eI v k)) = upW W f (k + 1) v := by
  apply List.ext_getElem (by rw [List.length_set, upW_length, upW_length])
  intro j h1 h2
  rw [upW_length] at h2
  rw [upW_get h2, List.getElem_set, upW_get h2]
  by_cases e : f + k = j
  · subst e
    rw [if_pos rfl, if_pos (by omega), Nat.add_sub_cancel_left, eI_at h2]
  · rw [if_neg e]
    by_cases h3 : f ≤ j ∧ j < f + k
    · rw [if_pos h3, if_pos (by omega)]
    · rw [if_neg h3, if_neg (by omega)]
/-- What two states know together. -/
def joinMS (a b : MS) : MS := ⟨upB a.bad 0 b.bad.length b.bad, upW a.wear 0 b.bad.length b.wear, max a.seq b.seq⟩
def joinE (a b : MS) : Int := if okMS a && okMS b then (if a.bad.length = b.bad.length then 0 else 1) else 60
def MS.zero : MS := ⟨[], [], 0⟩
/-- What Join answers. -/
def joinR (a b : MS) : MS × Int := if joinE a b = 0 then (joinMS a b, 0) else (MS.zero, joinE a b)
def sameS (a b : MS) : Bool := decide (a.seq = b.seq) && ((a.bad == b.bad) && (a.wear == b.wear))
theorem sameS_iff {a b : MS} : sameS a b = true ↔ a = b := by
  cases a; cases b
  simp [sameS]
  constructor
  · rintro ⟨h1, h2, h3⟩; exact ⟨h2, h3, h1⟩
  · rintro ⟨h1, h2, h3⟩; exact ⟨h3, h1, h2⟩
theorem sameS_comm (a b : MS) : sameS a b = sameS b a := by
  cases h : sameS a b with
  | true => rw [sameS_iff.1 h]; exact (sameS_iff.2 rfl).symm
  | false =>
    cases h2 : sameS b a with
    | false => rfl
    | true => rw [sameS_iff.2 (sameS_iff.1 h2).symm] at h; cases h
def coversB (a b : MS) : Bool := decide (joinE a b = 0) && sameS (joinMS a b) a
/-- Records that may be. -/
def okMR (r : MR) : Bool :=
  if r.kind = 1 then (decide (0 ≤ r.block) && decide (r.block ≤ 255)) && decide (r.value = 0)
  else if r.kind = 2 then (decide (0 ≤ r.block) && decide (r.block ≤ 255)) && okWear r.value
  else if r.kind = 3 then decide (r.block = 0) && (decide (0 ≤ r.value) && decide (r.value ≤ 1152921504606846976))
  else false
/-- A state behind a record. -/
def learnR (s : MS) (r : MR) : MS :=
  if r.kind = 1 then { s with bad := s.bad.set r.block.toNat true }
  else if r.kind = 2 then { s with wear := s.wear.set r.block.toNat (max (eI s.wear r.block.toNat) r.value) }
  else if r.kind = 3 then { s with seq := max s.seq r.value }
  else s
def okFor (n : Nat) (r : MR) : Bool := okMR r && decide (r.block < (n : Int))
/-- What Apply answers. -/
def applyR (s : MS) (l : List MR) : MS × Int := if okMS s then (if l.all (okFor s.bad.length) then (l.foldl learnR s, 0) else (MS.zero, 61)) else (MS.zero, 60)
/-- A new state. -/
def newMS (n : Nat) : MS := ⟨List.replicate n false, List.replicate n 0, 0⟩
theorem okMS_new {n : Nat} (h : 16 ≤ n ∧ n ≤ 256) : okMS (newMS n) = true := by
  rw [okMS_iff]
  refine ⟨by simpa [newMS] using h, by simp [newMS], ?_, by show (0 : Int) ≤ 0; decide, by show (0 : Int) ≤ 1152921504606846976; decide⟩
  simp [newMS, okWear]
theorem learnR_len (s : MS) (r : MR) : (learnR s r).bad.length = s.bad.length ∧ (learnR s r).wear.length = s.wear.length := by
  unfold learnR
  split
  · simp
  · split
    · simp
    · split <;> simp
theorem foldR_len (s : MS) (l : List MR) : (l.foldl learnR s).bad.length = s.bad.length ∧ (l.foldl learnR s).wear.length = s.wear.length := by
  induction l generalizing s with
  | nil => exact ⟨rfl, rfl⟩
  | cons r l ih => rw [List.foldl_cons]; have := ih (learnR s r); have h := learnR_len s r; exact ⟨this.1.trans h.1, this.2.trans h.2⟩
theorem eI_set_self {W : List Int} {k : Nat} {x : Int} (h : k < W.length) : eI (W.set k x) k = x := by simp [eI, h]
theorem eI_set_ne {W : List Int} {k j : Nat} {x : Int} (h : k ≠ j) : eI (W.set k x) j = eI W j := by simp [eI, List.getElem?_set_ne h]
theorem set_comm_b (B : List Bool) (i j : Nat) : (B.set i true).set j true = (B.set j true).set i true := by
  by_cases h : i = j
  · subst h; rfl
  · exact List.set_comm _ _ h
theorem learnR_comm (s : MS) (r q : MR) : learnR (learnR s r) q = learnR (learnR s q) r := by
  unfold learnR
  by_cases h1 : r.kind = 1
  · rw [if_pos h1, if_pos h1]
    by_cases g1 : q.kind = 1
    · rw [if_pos g1, if_pos g1]; simp [set_comm_b]
    · rw [if_neg g1, if_neg g1]
      by_cases g2 : q.kind = 2
      · rw [if_pos g2, if_pos g2]
      · rw [if_neg g2, if_neg g2]
        by_cases g3 : q.kind = 3
        · rw [if_pos g3, if_pos g3]
        · rw [if_neg g3, if_neg g3]
  · rw [if_neg h1, if_neg h1]
    by_cases h2 : r.kind = 2
    · rw [if_pos h2, if_pos h2]
      by_cases g1 : q.kind = 1
      · rw [if_pos g1, if_pos g1]
      · rw [if_neg g1, if_neg g1]
        by_cases g2 : q.kind = 2
        · rw [if_pos g2, if_pos g2]
          simp only [MS.mk.injEq, true_and, and_true]
          generalize r.block.toNat = i
          generalize q.block.toNat = j
          by_cases h : i = j
          · subst h
            by_cases hl : i < s.wear.length
            · rw [eI_set_self hl, eI_set_self hl, List.set_set, List.set_set]
              congr 1; omega
            · rw [List.set_eq_of_length_le (by omega : s.wear.length ≤ i), List.set_eq_of_length_le (by omega : s.wear.length ≤ i), List.set_eq_of_length_le (by omega : s.wear.length ≤ i)]
          · rw [eI_set_ne h, eI_set_ne (Ne.symm h)]
            exact List.set_comm _ _ h
        · rw [if_neg g2, if_neg g2]
          by_cases g3 : q.kind = 3
          · rw [if_pos g3, if_pos g3]
          · rw [if_neg g3, if_neg g3]
    · rw [if_neg h2, if_neg h2]
      by_cases h3 : r.kind = 3
      · rw [if_pos h3, if_pos h3]
        by_cases g1 : q.kind = 1
        · rw [if_pos g1, if_pos g1]
        · rw [if_neg g1, if_neg g1]
          by_cases g2 : q.kind = 2
          · rw [if_pos g2, if_pos g2]
          · rw [if_neg g2, if_neg g2]
            by_cases g3 : q.kind = 3
            · rw [if_pos g3, if_pos g3]
              simp only [MS.mk.injEq, true_and]; omega
            · rw [if_neg g3, if_neg g3]
      · rw [if_neg h3, if_neg h3]
theorem learnR_twice (s : MS) (r : MR) : learnR (learnR s r) r = learnR s r := by
  unfold learnR
  by_cases h1 : r.kind = 1
  · rw [if_pos h1, if_pos h1]; simp
  · rw [if_neg h1, if_neg h1]
    by_cases h2 : r.kind = 2
    · rw [if_pos h2, if_pos h2]
      simp only [MS.mk.injEq, true_and, and_true]
      generalize r.block.toNat = i
      by_cases hl : i < s.wear.length
      · rw [eI_set_self hl, List.set_set]; congr 1; omega
      · rw [List.set_eq_of_length_le (by omega : s.wear.length ≤ i), List.set_eq_of_length_le (by omega : s.wear.length ≤ i)]
    · rw [if_neg h2, if_neg h2]
      by_cases h3 : r.kind = 3
      · rw [if_pos h3, if_pos h3]; simp only [MS.mk.injEq, true_and]; omega
      · rw [if_neg h3, if_neg h3]
theorem foldR_comm (s : MS) (r : MR) (l : List MR) : l.foldl learnR (learnR s r) = learnR (l.foldl learnR s) r := by
  induction l generalizing s with
  | nil => rfl
  | cons q l ih => rw [List.foldl_cons, List.foldl_cons, learnR_comm, ih]
theorem foldR_rev (s : MS) (l : List MR) : l.reverse.foldl learnR s = l.foldl learnR s := by
  induction l generalizing s with
  | nil => rfl
  | cons r l ih => rw [List.reverse_cons, List.foldl_append, ih, List.foldl_cons, List.foldl_cons, List.foldl_nil, foldR_comm]
theorem foldR_twice (s : MS) (l : List MR) : l.foldl learnR (l.foldl learnR s) = l.foldl learnR s := by
  induction l generalizing s with
  | nil => rfl
  | cons r l ih => rw [List.foldl_cons, List.foldl_cons, ← foldR_comm, learnR_twice, ih]
/-- Records come to the same in any order, and twice. -/
theorem foldR_back (s : MS) (l : List MR) : (l.reverse ++ l).foldl learnR s = l.foldl learnR s := by
  rw [List.foldl_append, foldR_rev, foldR_twice]
end Go.Proofs.Ytpikaagdiafieaa
