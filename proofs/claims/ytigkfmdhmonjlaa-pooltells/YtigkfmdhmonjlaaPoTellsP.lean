/-
  Choices by place: the plain functions of Choose and Cold.
-/
import Derived.Test.YtigkfmdhmonjlaaPoBegun
namespace Go.Proofs.Ytigkfmdhmonjlaa
open Go.RowKit
def stepN (ah : Int → Int → Bool) (W : List Int) (o : Option Nat) (k : Nat) : Option Nat :=
  match o with
  | none => some k
  | some b => if ah (eI W k) (eI W b) then some k else some b
/-- Which of the places is chosen. -/
def pickN (ah : Int → Int → Bool) (W : List Int) (l : List Nat) : Option Nat := l.foldl (stepN ah W) none
theorem pickN_snoc (ah : Int → Int → Bool) (W : List Int) (l : List Nat) (k : Nat) : pickN ah W (l ++ [k]) = stepN ah W (pickN ah W l) k := by simp [pickN]
theorem foldN_mem (ah : Int → Int → Bool) (W : List Int) : ∀ (l : List Nat) (o : Option Nat) (b : Nat), l.foldl (stepN ah W) o = some b → b ∈ l ∨ o = some b
  | [], o, b, h => .inr h
  | k :: r, o, b, h => by
    rw [List.foldl_cons] at h
    rcases foldN_mem ah W r _ b h with h1 | h1
    · exact .inl (List.mem_cons_of_mem _ h1)
    · cases o with
      | none => simp [stepN] at h1; subst h1; exact .inl (by simp)
      | some c =>
        simp only [stepN] at h1
        split at h1
        · simp at h1; subst h1; exact .inl (by simp)
        · exact .inr h1
theorem pickN_mem {ah : Int → Int → Bool} {W : List Int} {l : List Nat} {b : Nat} (h : pickN ah W l = some b) : b ∈ l := by
  rcases foldN_mem ah W l none b h with h1 | h1
  · exact h1
  · cases h1
theorem pickN_lt {ah : Int → Int → Bool} {R W : List Int} {role : Int} {k b : Nat} (h : pickN ah W (idxTo R role k) = some b) : b < k := idxTo_lt (pickN_mem h)
theorem pickK_val {N : Nat} (ah : Int → Int → Bool) (W : List Int) : ∀ (ks : List (IdxT N)) (o : Option (IdxT N)), (ks.foldl (pickStep ah W) o).map (fun k => k.1) = (ks.map (fun k => k.1)).foldl (stepN ah W) (o.map (fun k => k.1))
  | [], o => rfl
  | k :: r, o => by
    rw [List.foldl_cons, List.map_cons, List.foldl_cons, pickK_val ah W r]
    congr 1
    cases o with
    | none => rfl
    | some b =>
      simp only [pickStep, Option.map_some, stepN]
      split <;> rfl
/-- The choice of a pool, by place. -/
def choiceN (ah : Int → Int → Bool) (R W : List Int) (role : Int) : Option Nat := if okPool R W then pickN ah W (idxTo R role R.length) else none
theorem pick_choice (ah : Int → Int → Bool) (R W : List Int) (role : Int) : (pickK ah W (allK R W role)).map (fun k => k.1) = choiceN ah R W role := by
  unfold choiceN
  cases h : okPool R W with
  | false => rw [allK_no h]; rfl
  | true =>
    rw [if_pos rfl, ← allK_ok (W := W) h]
    exact pickK_val ah W (allK R W role) none
def numO : Option Nat → Int
  | none => 0
  | some b => (b : Int)
def negO : Option Nat → Int
  | none => -1
  | some b => (b : Int)
theorem pick_num (ah : Int → Int → Bool) (R W : List Int) (role : Int) : bestN (pickK ah W (allK R W role)) = numO (choiceN ah R W role) ∧ (pickK ah W (allK R W role)).isSome = (choiceN ah R W role).isSome := by
  rw [← pick_choice]
  cases pickK ah W (allK R W role) <;> exact ⟨rfl, rfl⟩
theorem choiceN_ok {ah : Int → Int → Bool} {R W : List Int} {role : Int} (h : okPool R W = true) : choiceN ah R W role = pickN ah W (idxTo R role R.length) := by unfold choiceN; rw [if_pos h]
theorem choiceN_no {ah : Int → Int → Bool} {R W : List Int} {role : Int} (h : okPool R W = false) : choiceN ah R W role = none := by unfold choiceN; rw [h]; rfl
/-- What Cold answers. -/
def coldS (R W : List Int) (gap : Int) : Int × Int × Bool :=
  match choiceN isLess R W 2, choiceN isMore R W 1 with
  | some a, some b => if eI W b - eI W a < (if gap < 1 then 1 else gap) then (0, 0, false) else ((a : Int), (b : Int), true)
  | _, _ => (0, 0, false)
theorem pickN_yes {ah : Int → Int → Bool} {R W : List Int} {role : Int} {k : Nat} (h : eI R k = role) : pickN ah W (idxTo R role (k + 1)) = stepN ah W (pickN ah W (idxTo R role k)) k := by rw [idxTo_yes h, pickN_snoc]
theorem pickN_no {ah : Int → Int → Bool} {R W : List Int} {role : Int} {k : Nat} (h : ¬ eI R k = role) : pickN ah W (idxTo R role (k + 1)) = pickN ah W (idxTo R role k) := by rw [idxTo_no h]
theorem stepN_yes {ah : Int → Int → Bool} {W : List Int} {b k : Nat} (h : ah (eI W k) (eI W b) = true) : stepN ah W (some b) k = some k := by simp [stepN, h]
theorem stepN_no {ah : Int → Int → Bool} {W : List Int} {b k : Nat} (h : ah (eI W k) (eI W b) = false) : stepN ah W (some b) k = some b := by simp [stepN, h]
theorem less_yes {a b : Int} (h : a < b) : isLess a b = true := decide_eq_true h
theorem less_no {a b : Int} (h : ¬ a < b) : isLess a b = false := decide_eq_false h
theorem more_yes {a b : Int} (h : b < a) : isMore a b = true := decide_eq_true h
theorem more_no {a b : Int} (h : ¬ b < a) : isMore a b = false := decide_eq_false h
theorem negO_neg {o : Option Nat} (h : o = none) : negO o = -1 := by rw [h]; rfl
theorem choice_num (R W : List Int) : chooseN R W = numO (choiceN isLess R W 1) ∧ chooseB R W = (choiceN isLess R W 1).isSome := pick_num isLess R W 1
end Go.Proofs.Ytigkfmdhmonjlaa
