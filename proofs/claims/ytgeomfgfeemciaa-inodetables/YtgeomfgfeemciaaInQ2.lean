/-
  An inode's bytes read part by part.
-/
import Derived.Test.YtgeomfgfeemciaaInQ
namespace Go.Proofs.Ytgeomfgfeemciaa
open Go.RowKit
theorem getN_congr {xs ys : List Nat} {p q : Nat} : ∀ w, (∀ t, t < w → bitAt xs (p + t) = bitAt ys (q + t)) → getN xs p w = getN ys q w
  | 0, _ => rfl
  | w + 1, h => by
    have ih := getN_congr w (fun t ht => h t (by omega))
    unfold getN
    rw [ih, h w (by omega)]
theorem bitAt_take {xs : List Nat} {n j : Nat} (h : j < 8 * n) : bitAt (xs.take n) j = bitAt xs j := by
  unfold bitAt; rw [List.getD_eq_getElem?_getD, List.getElem?_take_of_lt (by omega), ← List.getD_eq_getElem?_getD]
theorem bitAt_drop {xs : List Nat} {n j : Nat} : bitAt (xs.drop n) j = bitAt xs (8 * n + j) := by
  unfold bitAt
  rw [List.getD_eq_getElem?_getD, List.getElem?_drop, ← List.getD_eq_getElem?_getD, show (8 * n + j) / 8 = n + j / 8 from by omega, show (8 * n + j) % 8 = j % 8 from by omega]
theorem head_field (xs : List Nat) (i : Nat) (h : i < 8) : getN (xs.take 24) (atW hW i) (eI hW i).toNat = fI xs i := by
  unfold fI
  have e1 : atW wsI i = atW hW i := atW_left (by show i ≤ 8; omega)
  have e2 : eI wsI i = eI hW i := eI_left h
  rw [e1, e2]
  have hb : atW hW i + (eI hW i).toNat ≤ 192 := by
    match i, h with
    | 0, _ => decide +kernel
    | 1, _ => decide +kernel
    | 2, _ => decide +kernel
    | 3, _ => decide +kernel
    | 4, _ => decide +kernel
    | 5, _ => decide +kernel
    | 6, _ => decide +kernel
    | 7, _ => decide +kernel
  refine getN_congr _ (fun t ht => ?_)
  rw [bitAt_take (by omega), bitAt_take (by omega)]
theorem root_at (k i : Nat) (hk : k < 4) (hi : i < 3) : atW wsI (8 + 3 * k + i) = 8 * (24 + 9 * k) + atW rW i ∧ eI wsI (8 + 3 * k + i) = eI rW i ∧ atW rW i + (eI rW i).toNat ≤ 72 := by
  match k, hk, i, hi with
  | 0, _, 0, _ => decide +kernel
  | 0, _, 1, _ => decide +kernel
  | 0, _, 2, _ => decide +kernel
  | 1, _, 0, _ => decide +kernel
  | 1, _, 1, _ => decide +kernel
  | 1, _, 2, _ => decide +kernel
  | 2, _, 0, _ => decide +kernel
  | 2, _, 1, _ => decide +kernel
  | 2, _, 2, _ => decide +kernel
  | 3, _, 0, _ => decide +kernel
  | 3, _, 1, _ => decide +kernel
  | 3, _, 2, _ => decide +kernel
theorem root_field (xs : List Nat) (k i : Nat) (hk : k < 4) (hi : i < 3) : getN ((xs.drop (24 + 9 * k)).take 9) (atW rW i) (eI rW i).toNat = fI xs (8 + 3 * k + i) := by
  obtain ⟨e1, e2, e3⟩ := root_at k i hk hi
  unfold fI
  rw [e1, e2]
  refine getN_congr _ (fun t ht => ?_)
  rw [bitAt_take (by omega), bitAt_drop, bitAt_take (by omega)]
  congr 1; omega
/-- What the bytes of an inode never say. -/
theorem dec_far {xs : List Nat} (h : decB xs = true) : fI xs 2 ≤ 4 ∧ fI xs 5 ≤ 16777216 := by
  have hm := decB_may h
  have hb := decB_back h
  have f := Fit.of hm
  constructor
  · have := fI_enc hm 2 (by decide)
    rw [hb] at this
    rw [this]
    exact f.len
  · have hs := f.sz
    have hl : fI xs 5 < 18446744073709551616 := getN_lt _ _ 64
    have e : (rdI xs).sz = IntKind.i64.wrap (fI xs 5 : Int) := rfl
    rw [e, IntKind.wrap_i64] at hs
    omega
theorem dec_near {xs : List Nat} (h : fI xs 2 ≤ 4) : (rdI xs).rt = (List.range (fI xs 2)).map (rdE xs) := by
  show (List.range (min (fI xs 2) 4)).map (rdE xs) = _
  rw [Nat.min_eq_left h]
end Go.Proofs.Ytgeomfgfeemciaa
