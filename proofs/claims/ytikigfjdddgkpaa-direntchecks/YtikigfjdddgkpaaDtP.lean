/-
  Names, entries, records and blocks of directories, plainly.
-/
import Derived.Test.YtikigfjdddgkpaaDtBase
namespace Go.Proofs.Ytikigfjdddgkpaa
open Go.RowKit
/-- How long a record of that name is at least. -/
def needE (l : List UInt8) : Int := ((l.length : Int) + 11) / 4 * 4
def badB (l : List UInt8) : Bool := l.any fun b => b == 0 || b == 47
def nmOk (l : List UInt8) : Bool := !(l == []) && decide (l.length ≤ 48) && !(l == [46]) && !(l == [46, 46]) && !(badB l)
def nmE (l : List UInt8) : Int := if nmOk l then 0 else 161
def inoOk (i k : Int) : Bool := decide (1 ≤ i) && decide (i ≤ 1048576) && (k == 1 || k == 2)
def chkE (l : List UInt8) (i k : Int) : Int := if nmOk l then (if inoOk i k then 0 else 162) else 161
def Rc.has (r : Rc) : Bool := r.ino != 0
def spareE (r : Rc) : Int := if r.has then r.ln - needE r.nm else r.ln
def rc0 : Rc := ⟨0, 0, [], 0, 0⟩
def en0 : Ent := ⟨[], 0, 0⟩
def Rc.en (r : Rc) : Ent := ⟨r.nm, r.ino, r.kd⟩
theorem nmOk_len {l : List UInt8} (h : nmOk l = true) : 1 ≤ l.length ∧ l.length ≤ 48 := by
  simp only [nmOk, Bool.and_eq_true, Bool.not_eq_true', beq_eq_false_iff_ne, decide_eq_true_eq] at h
  obtain ⟨⟨⟨⟨h0, h1⟩, -⟩, -⟩, -⟩ := h
  refine ⟨?_, h1⟩
  cases l with
  | nil => exact absurd rfl h0
  | cons a t => simp
theorem nmE_ok {l : List UInt8} (h : nmOk l = true) : nmE l = 0 := by simp [nmE, h]
theorem nmE_no {l : List UInt8} (h : nmOk l = false) : nmE l = 161 := by simp [nmE, h]
theorem chkE_ok {l : List UInt8} {i k : Int} (h : nmOk l = true) (hi : inoOk i k = true) : chkE l i k = 0 := by simp [chkE, h, hi]
theorem chkE_ino {l : List UInt8} {i k : Int} (h : nmOk l = true) (hi : inoOk i k = false) : chkE l i k = 162 := by simp [chkE, h, hi]
theorem chkE_nm {l : List UInt8} {i k : Int} (h : nmOk l = false) : chkE l i k = 161 := by simp [chkE, h]
theorem chkE_zero {l : List UInt8} {i k : Int} : chkE l i k = 0 ↔ nmOk l = true ∧ inoOk i k = true := by
  unfold chkE
  cases h : nmOk l <;> cases h2 : inoOk i k <;> simp
theorem inoOk_iff {i k : Int} : inoOk i k = true ↔ 1 ≤ i ∧ i ≤ 1048576 ∧ (k = 1 ∨ k = 2) := by simp [inoOk, and_assoc]
/-- The place of the first thing that a test takes; -1: there is none. -/
def idxOf {α : Type} (f : α → Bool) : List α → Nat → Int
  | [], _ => -1
  | x :: r, k => if f x then (k : Int) else idxOf f r (k + 1)
def isNm (l : List UInt8) (r : Rc) : Bool := r.has && (r.nm == l)
def placeE (rs : List Rc) (l : List UInt8) : Int := idxOf (isNm l) rs 0
/-- Bytes as a number, the highest first. -/
def numB (xs : List Nat) : Nat := xs.foldl (fun a x => a * 256 + x) 0
theorem numB_snoc (xs : List Nat) (x : Nat) : numB (xs ++ [x]) = numB xs * 256 + x := by simp [numB]
theorem numB_from {xs : List Nat} (h : ∀ x ∈ xs, x < 256) : ∀ (a k : Nat), a < 256 ^ k → xs.foldl (fun a x => a * 256 + x) a < 256 ^ (k + xs.length) := by
  induction xs with
  | nil => intro a k ha; simpa using ha
  | cons x xs ih =>
    intro a k ha
    have hx := h x (by simp)
    have := ih (fun y hy => h y (by simp [hy])) (a * 256 + x) (k + 1) (by rw [Nat.pow_succ]; omega)
    rw [List.foldl_cons, List.length_cons, show k + (xs.length + 1) = k + 1 + xs.length by omega]
    exact this
theorem numB_lt {xs : List Nat} (h : ∀ x ∈ xs, x < 256) : numB xs < 256 ^ xs.length := by
  have := numB_from h 0 0 (by decide)
  rwa [Nat.zero_add] at this
/-- A number as k bytes, the highest first. -/
def bytesB : Nat → Nat → List Nat
  | 0, _ => []
  | k + 1, n => bytesB k (n / 256) ++ [n % 256]
theorem bytesB_length (k n : Nat) : (bytesB k n).length = k := by
  induction k generalizing n with
  | zero => rfl
  | succ k ih => simp [bytesB, ih]
theorem bytesB_byte (k n : Nat) : ∀ x ∈ bytesB k n, x < 256 := by
  induction k generalizing n with
  | zero => simp [bytesB]
  | succ k ih =>
    intro x hx
    rcases List.mem_append.1 hx with h | h
    · exact ih _ x h
    · simp at h; omega
theorem num_bytes (k n : Nat) (h : n < 256 ^ k) : numB (bytesB k n) = n := by
  induction k generalizing n with
  | zero => simp at h; subst h; rfl
  | succ k ih =>
    rw [bytesB, numB_snoc, ih _ (by rw [Nat.pow_succ] at h; omega)]
    omega
/-- Bytes as a name. -/
def nmOf (xs : List Nat) : List UInt8 := xs.map UInt8.ofNat
def ofNm (l : List UInt8) : List Nat := l.map UInt8.toNat
theorem nmOf_length (xs : List Nat) : (nmOf xs).length = xs.length := by simp [nmOf]
theorem ofNm_length (l : List UInt8) : (ofNm l).length = l.length := by simp [ofNm]
theorem nm_of (l : List UInt8) : nmOf (ofNm l) = l := by simp [nmOf, ofNm, Function.comp_def]
theorem ofNm_byte (l : List UInt8) : ∀ x ∈ ofNm l, x < 256 := by
  intro x hx
  obtain ⟨b, _, rfl⟩ := List.mem_map.1 hx
  exact b.toNat_lt
/-- The record that begins at a place of a block; none: it may not be. -/
def recAt (xs : List Nat) (a : Nat) : Option Rc :=
  if xs.length < a + 8 then none
  else if xs.length < a + 8 + xs.getD (a + 6) 0 then none
  else
    let r : Rc := ⟨(a : Int), (numB ((xs.drop (a + 4)).take 2) : Nat), nmOf ((xs.drop (a + 8)).take (xs.getD (a + 6) 0)), (numB ((xs.drop a).take 4) : Nat), (xs.getD (a + 7) 0 : Nat)⟩
    if r.ln % 4 ≠ 0 ∨ r.ln < needE r.nm ∨ ((xs.length : Int) - a) < r.ln then none
    else if (if r.has then nmOk r.nm && inoOk r.ino r.kd else r.nm == [] && r.kd == 0) then some r else none
/-- The records from a place on, behind some. -/
def recsFrom (xs : List Nat) : Nat → Nat → List Rc → Option (List Rc)
  | 0, _, _ => none
  | f + 1, a, acc =>
    if a < xs.length then
      match recAt xs a with
      | none => none
      | some r => if placeE acc r.nm < 0 then recsFrom xs f (a + r.ln.toNat) (acc ++ [r]) else none
    else some acc
def recsO (xs : List Nat) : Option (List Rc) := if xs.length = 256 then recsFrom xs 257 0 [] else none
def recsL (xs : List Nat) : List Rc := (recsO xs).getD []
def stE (xs : List Nat) : Int := if (recsO xs).isSome then 0 else 160
end Go.Proofs.Ytikigfjdddgkpaa
