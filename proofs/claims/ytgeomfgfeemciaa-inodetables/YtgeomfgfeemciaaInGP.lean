/-
  Tables of inodes as plain bytes: what stands in a slot, what a table becomes.
-/
import Derived.Test.YtgeomfgfeemciaaInP
namespace Go.Proofs.Ytgeomfgfeemciaa
open Go.RowKit
/-- Is there such a slot? -/
def thB (xs : List Nat) (s : Int) : Bool := (xs.length == 256) && inB s 0 3
def plL (xs : List Nat) (s : Int) : List Nat := if thB xs s = true then (xs.drop (64 * s.toNat)).take 64 else []
/-- 1 is ErrArg. -/
def plE (xs : List Nat) (s : Int) : Int := if thB xs s = true then 0 else 1
def getI (xs : List Nat) (s : Int) : Ino := if thB xs s = true then decI (plL xs s) else zeroI
def getE (xs : List Nat) (s : Int) : Int := if thB xs s = true then decE (plL xs s) else 1
def putE (xs : List Nat) (s : Int) (x : Ino) : Int := if thB xs s = true then inoE x else 1
def putL (xs : List Nat) (s : Int) (x : Ino) : List Nat := if thB xs s = true then (if inoB x = true then xs.take (64 * s.toNat) ++ encL x ++ xs.drop (64 * s.toNat + 64) else []) else []
theorem thB_iff {xs : List Nat} {s : Int} : thB xs s = true ↔ xs.length = 256 ∧ 0 ≤ s ∧ s ≤ 3 := by
  unfold thB; rw [Bool.and_eq_true, beq_iff_eq, inB_iff]
theorem plL_len {xs : List Nat} {s : Int} (h : thB xs s = true) : (plL xs s).length = 64 := by
  unfold plL
  rw [if_pos h, List.length_take, List.length_drop]
  obtain ⟨h1, h2, h3⟩ := thB_iff.1 h
  omega
theorem put_ok {xs : List Nat} {s : Int} {x : Ino} (h : putE xs s x = 0) : thB xs s = true ∧ inoB x = true := by
  unfold putE at h
  split at h
  · rename_i ht
    refine ⟨ht, ?_⟩
    cases hb : inoB x with
    | true => rfl
    | false => rw [inoE_no hb] at h; cases h
  · cases h
theorem putL_ok {xs : List Nat} {s : Int} {x : Ino} (h : thB xs s = true) (hx : inoB x = true) : putL xs s x = xs.take (64 * s.toNat) ++ encL x ++ xs.drop (64 * s.toNat + 64) := by
  unfold putL; rw [if_pos h, if_pos hx]
theorem putL_len {xs : List Nat} {s : Int} {x : Ino} (h : thB xs s = true) (hx : inoB x = true) : (putL xs s x).length = 256 := by
  obtain ⟨h1, h2, h3⟩ := thB_iff.1 h
  rw [putL_ok h hx, List.length_append, List.length_append, encL_len hx, List.length_take, List.length_drop]
  omega
theorem putL_in {xs : List Nat} {s : Int} {x : Ino} (h : thB xs s = true) (hx : inoB x = true) : plL (putL xs s x) s = encL x := by
  obtain ⟨h1, h2, h3⟩ := thB_iff.1 h
  have ht : thB (putL xs s x) s = true := thB_iff.2 ⟨putL_len h hx, h2, h3⟩
  unfold plL
  rw [if_pos ht, putL_ok h hx, List.append_assoc, List.drop_left' (by rw [List.length_take]; omega), List.take_left' (encL_len hx)]
theorem putL_out {xs : List Nat} {s i : Int} {x : Ino} (h : thB xs s = true) (hx : inoB x = true) (hi : 0 ≤ i ∧ i ≤ 3) (hne : i ≠ s) : plL (putL xs s x) i = plL xs i := by
  obtain ⟨h1, h2, h3⟩ := thB_iff.1 h
  have ht : thB (putL xs s x) i = true := thB_iff.2 ⟨putL_len h hx, hi.1, hi.2⟩
  have hu : thB xs i = true := thB_iff.2 ⟨h1, hi.1, hi.2⟩
  unfold plL
  rw [if_pos ht, if_pos hu, putL_ok h hx]
  have he := encL_len hx
  refine List.ext_getElem? fun j => ?_
  rcases Nat.lt_or_ge j 64 with hj | hj
  · rw [List.getElem?_take_of_lt hj, List.getElem?_take_of_lt hj, List.getElem?_drop, List.getElem?_drop]
    rcases Int.lt_or_gt_of_ne hne with hl | hl
    · rw [List.append_assoc, List.getElem?_append_left (by rw [List.length_take]; omega), List.getElem?_take_of_lt (by omega)]
    · rw [List.getElem?_append_right (by rw [List.length_append, he, List.length_take]; omega), List.length_append, he, List.length_take, List.getElem?_drop]
      congr 1
      omega
  · rw [List.getElem?_eq_none (by rw [List.length_take]; omega), List.getElem?_eq_none (by rw [List.length_take]; omega)]
theorem own_slot {xs : List Nat} {s i : Int} {x : Ino} (h : thB xs s = true) (hx : inoB x = true) (hi : 0 ≤ i ∧ i ≤ 3) :
    getI (putL xs s x) i = (if i = s then x else getI xs i) ∧ getE (putL xs s x) i = (if i = s then 0 else getE xs i) := by
  obtain ⟨h1, h2, h3⟩ := thB_iff.1 h
  have ht : thB (putL xs s x) i = true := thB_iff.2 ⟨putL_len h hx, hi.1, hi.2⟩
  have hu : thB xs i = true := thB_iff.2 ⟨h1, hi.1, hi.2⟩
  unfold getI getE
  rw [if_pos ht, if_pos ht, if_pos hu, if_pos hu]
  by_cases he : i = s
  · subst he
    rw [if_pos rfl, if_pos rfl, putL_in h hx, decI_ok (decB_enc hx), decE_ok (decB_enc hx), rdI_enc hx]
    exact ⟨rfl, rfl⟩
  · rw [if_neg he, if_neg he, putL_out h hx hi he]
    exact ⟨rfl, rfl⟩
end Go.Proofs.Ytgeomfgfeemciaa
