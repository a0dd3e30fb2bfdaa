/-
  What seal.Width and seal's fit answer.
-/
import Derived.Test.YtgeomfgfeemciaaBase
namespace Go.Proofs.Ytgeomfgfeemciaa
open Go.RowKit
/-- The number at place i of a list of numbers. -/
def eI (xs : List Int) (i : Nat) : Int := xs.getD i 0
/-- A slice of ints that lies in a world. -/
structure InI (w : World) (p : Option Addr) (n c : Nat) (xs : List Int) : Prop where
  len : xs.length = n
  cap : n ≤ c
  max : c ≤ maxLen
  room : n ≤ 140737488355328
  at' : 0 < n → ∃ b o, p = some ⟨b, o, none⟩ ∧ b < w.heap.size ∧ ∀ i, i < n → w.cell? ⟨b, o + i, none⟩ = some (.int .i64 (eI xs i))
/-- A slice of uint64 that lies in a world. -/
structure In64 (w : World) (p : Option Addr) (n c : Nat) (xs : List Nat) : Prop where
  len : xs.length = n
  cap : n ≤ c
  max : c ≤ maxLen
  room : n ≤ 140737488355328
  lim : ∀ x ∈ xs, x < 18446744073709551616
  at' : 0 < n → ∃ b o, p = some ⟨b, o, none⟩ ∧ b < w.heap.size ∧ ∀ i, i < n → w.cell? ⟨b, o + i, none⟩ = some (.int .u64 (el xs i))
theorem InI.below {w w' p n c xs} (h : InI w p n c xs) (hb : Below w.heap.size w w') : InI w' p n c xs :=
  ⟨h.len, h.cap, h.max, h.room, fun h0 => by
    obtain ⟨b, o, hp, hlt, hc⟩ := h.at' h0
    exact ⟨b, o, hp, Nat.lt_of_lt_of_le hlt hb.size, fun i hi => (hb.cell (p := ⟨b, o + i, none⟩) hlt).trans (hc i hi)⟩⟩
theorem In64.below {w w' p n c xs} (h : In64 w p n c xs) (hb : Below w.heap.size w w') : In64 w' p n c xs :=
  ⟨h.len, h.cap, h.max, h.room, h.lim, fun h0 => by
    obtain ⟨b, o, hp, hlt, hc⟩ := h.at' h0
    exact ⟨b, o, hp, Nat.lt_of_lt_of_le hlt hb.size, fun i hi => (hb.cell (p := ⟨b, o + i, none⟩) hlt).trans (hc i hi)⟩⟩
theorem el_range64 {xs : List Nat} (h : ∀ x ∈ xs, x < 18446744073709551616) (i : Nat) : 0 ≤ el xs i ∧ el xs i ≤ 18446744073709551615 := by
  unfold el
  by_cases hi : i < xs.length
  · have := h _ (List.getElem_mem hi)
    simp only [List.getD_eq_getElem?_getD, List.getElem?_eq_getElem hi, Option.getD_some]
    omega
  · simp only [List.getD_eq_getElem?_getD, List.getElem?_eq_none (Nat.le_of_not_lt hi), Option.getD_none]
    omega
/-- A width that may be. -/
def okW (x : Int) : Bool := decide (1 ≤ x) && decide (x ≤ 64)
/-- All widths together. -/
def sumW : List Int → Int
  | [] => 0
  | x :: r => x + sumW r
/-- Widths that may be. -/
def widthOk (ws : List Int) : Bool := decide (ws.length ≤ 64) && ws.all okW
def widthE (ws : List Int) : Int := if widthOk ws then 0 else 1
def widthN (ws : List Int) : Int := if widthOk ws then (sumW ws + 7) / 8 else 0
theorem okW_iff (x : Int) : okW x = true ↔ 1 ≤ x ∧ x ≤ 64 := by simp [okW]
theorem sumW_append (a b : List Int) : sumW (a ++ b) = sumW a + sumW b := by
  induction a with
  | nil => simp [sumW]
  | cons x r ih => simp only [List.cons_append, sumW, ih]; omega
theorem takeI_succ (xs : List Int) (k : Nat) (h : k < xs.length) : xs.take (k + 1) = xs.take k ++ [eI xs k] := by
  rw [List.take_succ_eq_append_getElem h]; simp [eI, h]
theorem sumW_take_succ (xs : List Int) (k : Nat) (h : k < xs.length) : sumW (xs.take (k + 1)) = sumW (xs.take k) + eI xs k := by
  rw [takeI_succ xs k h, sumW_append]; simp [sumW]
theorem sumW_bound (xs : List Int) (k : Nat) (hk : k ≤ xs.length) (h : ∀ j, j < k → okW (eI xs j) = true) : (k : Int) ≤ sumW (xs.take k) ∧ sumW (xs.take k) ≤ 64 * (k : Int) := by
  induction k with
  | zero => simp [sumW]
  | succ k ih =>
    have i := ih (by omega) (fun j hj => h j (by omega))
    have o := (okW_iff _).1 (h k (by omega))
    rw [sumW_take_succ xs k (by omega)]
    omega
theorem allW_iff (xs : List Int) : xs.all okW = true ↔ ∀ j, j < xs.length → okW (eI xs j) = true := by
  rw [List.all_eq_true]
  constructor
  · intro h j hj
    have := h _ (List.getElem_mem hj)
    simpa [eI, hj] using this
  · intro h x hx
    obtain ⟨j, hj, rfl⟩ := List.getElem_of_mem hx
    have := h j hj
    simpa [eI, hj] using this
theorem width_any (p : Option Addr) (n c : Nat) (ws : List Int) (w : World) (hx : InI w p n c ws) :
    Calls Try.prog 47 #[.slice p n c] w fun e w' => e = .returned (.tuple #[.int .i64 (widthN ws), .int .i64 (widthE ws)]) ∧ w' = w := by
  have hroom := hx.room
  have HX : Hid (ws.length = n) := hx.len
  by_cases hl : 64 < n
  · have h1 : (64 : Int) < (n : Int) := by omega
    have e0 : widthOk ws = false := by simp only [widthOk, Bool.and_eq_false_iff, decide_eq_false_iff_not]; left; rw [HX.out]; omega
    have e1 : widthE ws = 1 := by unfold widthE; rw [e0]; rfl
    have e2 : widthN ws = 0 := by unfold widthN; rw [e0]; rfl
    rw [e1, e2]
    clear e0 e1 e2
    go_enter Try.func47, Try.ntmps47
    go_wp2
    go_ret2
    exact ⟨rfl, rfl⟩
  · have h1 : ¬ (64 : Int) < (n : Int) := by omega
    go_enter Try.func47, Try.ntmps47
    go_wp2
    go_loop [4, 12] (fun a i => ∃ k : Nat, k ≤ n ∧ i = .int .i64 k ∧ a = .int .i64 (sumW (ws.take k)) ∧ ∀ j, j < k → okW (eI ws j) = true) (fun _ i => n - (intOf i).toNat)
    case atStart => exact ⟨0, Nat.zero_le _, rfl, rfl, fun j h => by omega⟩
    case round =>
      obtain ⟨k, hk, rfl, rfl, hall⟩ := hrel
      have hb := sumW_bound ws k (by rw [HX.out]; exact hk) hall
      have HA : Hid (∀ j, j < k → okW (eI ws j) = true) := hall
      clear hall
      by_cases hlt : k < n
      · obtain ⟨b, o, rfl, hb', hc⟩ := hx.at' (by omega)
        have hck := hc k hlt
        clear hc
        by_cases hok : okW (eI ws k) = true
        · have ho := (okW_iff _).1 hok
          have HO : Hid (okW (eI ws k) = true) := hok
          have HS : Hid (sumW (ws.take (k + 1)) = sumW (ws.take k) + eI ws k) := sumW_take_succ ws k (by rw [HX.out]; exact hlt)
          clear hok
          have hd1 : ¬ eI ws k < 1 := by omega
          have hd2 : ¬ 64 < eI ws k := by omega
          go_wp2
          go_round
          case rel =>
            refine ⟨k + 1, by omega, by go_num, val_int HS.out.symm, fun j hj => ?_⟩
            rcases Nat.lt_succ_iff_lt_or_eq.1 hj with h | h
            · exact HA.out j h
            · rw [h]; exact HO.out
          case measure => simp [intOf]; omega
        · have e0 : widthOk ws = false := by
            cases hq : widthOk ws with
            | false => rfl
            | true =>
              unfold widthOk at hq
              simp only [Bool.and_eq_true] at hq
              exact absurd ((allW_iff ws).1 hq.2 k (by rw [HX.out]; exact hlt)) hok
          have E1 : Hid (widthE ws = 1) := by show _ = _; unfold widthE; rw [e0]; rfl
          have E2 : Hid (widthN ws = 0) := by show _ = _; unfold widthN; rw [e0]; rfl
          have hn : eI ws k < 1 ∨ 64 < eI ws k := by
            rcases Int.lt_or_le (eI ws k) 1 with h | h
            · exact .inl h
            · rcases Int.lt_or_le 64 (eI ws k) with h' | h'
              · exact .inr h'
              · exact absurd ((okW_iff _).2 ⟨h, h'⟩) hok
          clear hok e0
          rcases hn with hn | hn
          · go_wp2
            go_ret2
            rw [E1.out, E2.out]
            exact ⟨rfl, rfl⟩
          · have hn1 : ¬ eI ws k < 1 := by omega
            go_wp2
            go_ret2
            rw [E1.out, E2.out]
            exact ⟨rfl, rfl⟩
      · have hkn : k = n := by omega
        subst hkn
        have e0 : widthOk ws = true := by
          unfold widthOk
          rw [Bool.and_eq_true]
          exact ⟨by rw [HX.out]; simp; omega, (allW_iff ws).2 fun j hj => HA.out j (by have := HX.out; omega)⟩
        have et : ws.take k = ws := List.take_of_length_le (by rw [HX.out]; exact Nat.le_refl _)
        rw [et] at hb ⊢
        have E1 : Hid (widthE ws = 0) := by show _ = _; unfold widthE; rw [e0]; rfl
        have E2 : Hid (widthN ws = (sumW ws + 7) / 8) := by show _ = _; unfold widthN; rw [e0]; rfl
        clear e0 et
        go_wp2
        go_ret2
        rw [E1.out, E2.out]
        exact ⟨rfl, rfl⟩
end Go.Proofs.Ytgeomfgfeemciaa
