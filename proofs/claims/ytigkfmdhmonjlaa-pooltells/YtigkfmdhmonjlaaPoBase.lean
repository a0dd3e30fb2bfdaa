/-
  What slices of int and of int64 in memory hold; pools; the plain functions that this seat's texts speak of.
-/
import Derived.Test.YtigkfmdhmonjlaaBase
import Derived.Deep.WholeRow
import Derived.Deep.RegionHeld3
namespace Go.Proofs.Ytigkfmdhmonjlaa
open Go.RowKit
/-- The number at place i of a list of numbers. -/
def eI (xs : List Int) (i : Nat) : Int := xs.getD i 0
/-- A slice of ints that lies in a world. -/
structure InI (w : World) (p : Option Addr) (n c : Nat) (xs : List Int) : Prop where
  len : xs.length = n
  cap : n ≤ c
  max : c ≤ maxLen
  room : n ≤ 140737488355328
  at' : 0 < n → ∃ b o, p = some ⟨b, o, none⟩ ∧ b < w.heap.size ∧ ∀ i, i < n → w.cell? ⟨b, o + i, none⟩ = some (.int .i64 (eI xs i))
  nil : p = none → c = 0
theorem InI.below {w w' p n c xs} (h : InI w p n c xs) (hb : Below w.heap.size w w') : InI w' p n c xs :=
  ⟨h.len, h.cap, h.max, h.room, fun h0 => by
    obtain ⟨b, o, hp, hlt, hc⟩ := h.at' h0
    exact ⟨b, o, hp, Nat.lt_of_lt_of_le hlt hb.size, fun i hi => (hb.cell (p := ⟨b, o + i, none⟩) hlt).trans (hc i hi)⟩, h.nil⟩
theorem InI.empty (w : World) : InI w none 0 0 [] := ⟨rfl, Nat.le_refl _, Nat.zero_le _, Nat.zero_le _, fun h => by omega, fun _ => rfl⟩
theorem bt {a b c : World} (h : Below a.heap.size a b) (h' : Below b.heap.size b c) : Below a.heap.size a c := h.trans (h'.mono h.size)
theorem below_alloc (w : World) (o : Obj) : Below w.heap.size w (w.alloc o) := (Below.refl _ _).alloc (Nat.le_refl _) o
theorem addr_add (b o j : Nat) : (⟨b, o, none⟩ : Addr).add j = ⟨b, o + j, none⟩ := by unfold Addr.add; split <;> simp_all
/-- Numbers as cells. -/
def valsI (xs : List Int) : List Value := xs.map fun x : Int => Value.int .i64 x
theorem valsI_length (xs : List Int) : (valsI xs).length = xs.length := by simp [valsI]
theorem valsI_append (a b : List Int) : valsI (a ++ b) = valsI a ++ valsI b := by simp [valsI]
theorem valsI_one (xs : List Int) : ∀ u ∈ valsI xs, u.oneCell' = true := by
  intro u hu
  obtain ⟨x, _, rfl⟩ := List.mem_map.1 hu
  rfl
theorem valsI_get (xs : List Int) (j : Nat) (h : j < xs.length) : (valsI xs)[j]? = some (.int .i64 (eI xs j)) := by
  simp [valsI, eI, h]
theorem valsI_get_inv {xs : List Int} {j : Nat} {u : Value} (h : (valsI xs)[j]? = some u) : j < xs.length ∧ u = .int .i64 (eI xs j) := by
  have hj : j < xs.length := by
    rcases Nat.lt_or_ge j xs.length with h' | h'
    · exact h'
    · rw [List.getElem?_eq_none (by rw [valsI_length]; exact h')] at h; simp at h
  rw [valsI_get xs j hj] at h
  exact ⟨hj, (Option.some.inj h).symm⟩
theorem valsI_set (xs : List Int) (i : Nat) (x : Int) : (valsI xs).set i (.int .i64 x) = valsI (xs.set i x) := by simp [valsI, List.map_set]
theorem InI.cells {w : World} {p : Option Addr} {n c : Nat} {xs : List Int} (h : InI w p n c xs) {a : Addr} (ha : p = some a) :
    ∀ j u, (valsI xs)[j]? = some u → w.cell? (a.add j) = some u := by
  intro j u hu
  obtain ⟨hj, rfl⟩ := valsI_get_inv hu
  have hl := h.len
  obtain ⟨b, o, hp, _, hc⟩ := h.at' (by omega)
  rw [ha] at hp
  cases hp
  rw [addr_add]
  exact hc j (by omega)
theorem in_of_ownsI {w : World} {B : Nat} {e : TypeId} {v : Value} {n : Nat} {xs : List Int} (h : w.ownsRow B e 1 v n (valsI xs)) (hr : n ≤ 140737488355328) :
    ∃ p c, v = .slice p n c ∧ InI w p n c xs := by
  have hl : xs.length = n := by have := h.1; simpa [valsI] using this
  rcases h.2 with ⟨rfl, rfl⟩ | ⟨g, cap, cur, rfl, hg, hh, hnc, hcm, hsz, htk⟩
  · have : xs = [] := List.eq_nil_of_length_eq_zero hl
    subst this
    exact ⟨none, 0, rfl, InI.empty w⟩
  · refine ⟨some ⟨g, 0, none⟩, cap, rfl, hl, hnc, hcm, hr, fun h0 => ⟨g, 0, rfl, ?_, fun i hi => ?_⟩, fun h => by simp at h⟩
    · rcases Nat.lt_or_ge g w.heap.size with h' | h'
      · exact h'
      · rw [Array.getElem?_eq_none h'] at hh; simp at hh
    · have := World.ownsRow.cellAt h i (by omega)
      rw [Nat.zero_add, this, valsI_get xs i (by omega)]
theorem owns_below {w w' : World} {B : Nat} {e : TypeId} {s : Nat} {v : Value} {n : Nat} {xs : List Value} (h : w.ownsRow B e s v n xs) (hb : Below w.heap.size w w') : w'.ownsRow B e s v n xs := by
  refine ⟨h.1, ?_⟩
  rcases h.2 with h' | ⟨g, cap, cur, rfl, hg, hh, hr⟩
  · exact .inl h'
  · refine .inr ⟨g, cap, cur, rfl, hg, ?_, hr⟩
    have hlt : g < w.heap.size := by
      rcases Nat.lt_or_ge g w.heap.size with h' | h'
      · exact h'
      · rw [Array.getElem?_eq_none h'] at hh; simp at hh
    rw [hb.block g hlt]; exact hh
theorem below_grown0 {w w1 : World} (h : w.grownBy w1 none) : Below w.heap.size w w1 := (Below.refl _ _).grown h (Nat.le_refl _) (fun _ h => by cases h)
theorem takeI_succ (xs : List Int) (k : Nat) (h : k < xs.length) : xs.take (k + 1) = xs.take k ++ [eI xs k] := by
  rw [List.take_succ_eq_append_getElem h]; simp [eI, h]
theorem eI_mem {xs : List Int} {k : Nat} (h : k < xs.length) : eI xs k ∈ xs := by
  simp [eI, h]
theorem eI_all {xs : List Int} {f : Int → Bool} : xs.all f = true ↔ ∀ j, j < xs.length → f (eI xs j) = true := by
  rw [List.all_eq_true]
  constructor
  · intro h j hj; exact h _ (eI_mem hj)
  · intro h x hx
    obtain ⟨i, hi, rfl⟩ := List.mem_iff_getElem.1 hx
    have := h i hi
    simpa [eI, hi] using this
theorem all_of_not {xs : List Int} {f : Int → Bool} {k : Nat} (hk : k < xs.length) (h : f (eI xs k) = false) : xs.all f = false := by
  cases hq : xs.all f with
  | false => rfl
  | true => rw [eI_all.1 hq k hk] at h; cases h
/-- A role that may be. -/
def okR (x : Int) : Bool := decide (1 ≤ x) && decide (x ≤ 6)
/-- A wear that may be. -/
def okWear (x : Int) : Bool := decide (0 ≤ x) && decide (x ≤ 16777215)
/-- Pools that may be. -/
def okPool (R W : List Int) : Bool := decide (R.length = W.length) && (decide (16 ≤ R.length) && decide (R.length ≤ 256)) && R.all okR && W.all okWear
def checkE (R W : List Int) : Int := if okPool R W then 0 else 40
theorem okPool_iff {R W : List Int} : okPool R W = true ↔ (R.length = W.length ∧ 16 ≤ R.length ∧ R.length ≤ 256) ∧ R.all okR = true ∧ W.all okWear = true := by
  simp only [okPool, Bool.and_eq_true, decide_eq_true_eq]
  constructor
  · rintro ⟨⟨⟨h1, h2, h3⟩, h4⟩, h5⟩; exact ⟨⟨h1, h2, h3⟩, h4, h5⟩
  · rintro ⟨⟨h1, h2, h3⟩, h4, h5⟩; exact ⟨⟨⟨h1, h2, h3⟩, h4⟩, h5⟩
theorem checkE_ok {R W : List Int} (h : okPool R W = true) : checkE R W = 0 := by unfold checkE; rw [h]; rfl
theorem checkE_no {R W : List Int} (h : okPool R W = false) : checkE R W = 40 := by unfold checkE; rw [h]; rfl
theorem okR_iff {x : Int} : okR x = true ↔ 1 ≤ x ∧ x ≤ 6 := by simp [okR]
theorem okWear_iff {x : Int} : okWear x = true ↔ 0 ≤ x ∧ x ≤ 16777215 := by simp [okWear]
theorem okR_no {x : Int} (h : okR x = false) : x < 1 ∨ 6 < x := by
  simp only [okR, Bool.and_eq_false_iff, decide_eq_false_iff_not] at h; omega
theorem okWear_no {x : Int} (h : okWear x = false) : x < 0 ∨ 16777215 < x := by
  simp only [okWear, Bool.and_eq_false_iff, decide_eq_false_iff_not] at h; omega
theorem okPool_noL {R W : List Int} (h : ¬ R.length = W.length) : okPool R W = false := by
  cases hq : okPool R W with
  | false => rfl
  | true => exact absurd (okPool_iff.1 hq).1.1 h
theorem okPool_noN {R W : List Int} (h : ¬ (16 ≤ R.length ∧ R.length ≤ 256)) : okPool R W = false := by
  cases hq : okPool R W with
  | false => rfl
  | true => exact absurd (okPool_iff.1 hq).1.2 h
theorem okPool_noR {R W : List Int} (h : R.all okR = false) : okPool R W = false := by
  cases hq : okPool R W with
  | false => rfl
  | true => rw [(okPool_iff.1 hq).2.1] at h; cases h
theorem okPool_noW {R W : List Int} (h : W.all okWear = false) : okPool R W = false := by
  cases hq : okPool R W with
  | false => rfl
  | true => rw [(okPool_iff.1 hq).2.2] at h; cases h
end Go.Proofs.Ytigkfmdhmonjlaa
