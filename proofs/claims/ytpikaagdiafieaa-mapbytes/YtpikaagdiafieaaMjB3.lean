/-
  Numbers with and without a sign; the widths of fields.
-/
import Derived.Test.YtpikaagdiafieaaMjB2
import Derived.Test.YtpikaagdiafieaaMjRepeat
namespace Go.Proofs.Ytpikaagdiafieaa
open Go.RowKit
/-- Numbers without a sign. -/
def natsL (xs : List Int) : List Nat := xs.map Int.toNat
def natsTo (xs : List Int) (k : Nat) : List Nat := (List.range xs.length).map fun i => if i < k then (eI xs i).toNat else 0
theorem natsTo_length (xs : List Int) (k : Nat) : (natsTo xs k).length = xs.length := by simp [natsTo]
theorem natsTo_zero (xs : List Int) : natsTo xs 0 = List.replicate xs.length 0 := by
  apply List.ext_getElem (by simp [natsTo])
  intro i h1 h2
  simp [natsTo]
theorem natsTo_all (xs : List Int) : natsTo xs xs.length = natsL xs := by
  apply List.ext_getElem (by simp [natsTo, natsL])
  intro i h1 h2
  have hi : i < xs.length := by simpa [natsTo] using h1
  simp [natsTo, natsL, hi, eI]
theorem natsTo_set (xs : List Int) (k : Nat) : (vals64 (natsTo xs k)).set k (.int .u64 (((eI xs k).toNat : Nat) : Int)) = vals64 (natsTo xs (k + 1)) := by
  apply List.ext_getElem?
  intro i
  by_cases h : k = i
  · subst h
    by_cases hk : k < xs.length
    · simp [vals64, natsTo, hk]
    · rw [List.getElem?_eq_none (by simp [vals64, natsTo]; omega), List.getElem?_eq_none (by simp [vals64, natsTo]; omega)]
  · rw [List.getElem?_set_ne h]
    simp only [vals64, natsTo, List.getElem?_map]
    rcases Nat.lt_or_ge i xs.length with hi | hi
    · simp only [List.getElem?_range hi, Option.map_some]
      by_cases hik : i < k
      · rw [if_pos hik, if_pos (by omega)]
      · rw [if_neg hik, if_neg (by omega)]
    · rw [List.getElem?_eq_none (by simpa using hi)]; rfl
theorem natsL_lim {xs : List Int} {n : Nat} (hl : xs.length = n) (h : ∀ j, j < n → 0 ≤ eI xs j ∧ eI xs j ≤ 16777215) : ∀ x ∈ natsL xs, x < 16777216 := by
  intro x hx
  obtain ⟨z, hz, rfl⟩ := List.mem_map.1 hx
  obtain ⟨i, hi, rfl⟩ := List.mem_iff_getElem.1 hz
  have := h i (by omega)
  simp [eI, hi] at this
  omega
set_option linter.unusedSimpArgs false in
set_option maxHeartbeats 1000000 in
theorem unsigned_any (p : Option Addr) (n c : Nat) (xs : List Int) (w : World) (hx : InI w p n c xs) (hn : n ≤ 64) (hpos : ∀ j, j < n → 0 ≤ eI xs j ∧ eI xs j ≤ 16777215) :
    Calls Try.prog 84 #[.slice p n c] w fun e w' => ∃ p' c', e = .returned (.slice p' n c') ∧ In64 w' p' n c' (natsL xs) ∧ Below w.heap.size w w' := by
  have HX : Hid (xs.length = n) := hx.len
  obtain ⟨i0, hi, hz0, hz1, hz2⟩ := info_parts info64
  go_enter Try.func84, Try.ntmps84
  go_wp2_with (at_make; refine wpList_make_full _ rfl _ _ 106 rfl w.heap.size 103 i0 (.int .u64 0) 1 Try.underlying106 hi hz0 hz1 .i64 .i64 _ _ n rfl rfl rfl rfl (by rw [hz2]; omega) (by unfold maxLen; omega) (Nat.le_refl _) ?_; intro w1 hown1 hgrow1)
  have hown2 : w1.ownsRow w.heap.size 103 1 (.slice (some ⟨w.heap.size, 0, none⟩) n n) n (vals64 (natsTo xs 0)) := by rw [natsTo_zero, HX.out]; exact made64 hown1
  have hbel2 := below_grown0 hgrow1
  clear hown1 hgrow1
  go_loopw [11] (fun i wr => ∃ k : Nat, k ≤ n ∧ i = .int .i64 k ∧ wr.ownsRow w.heap.size 103 1 (.slice (some ⟨w.heap.size, 0, none⟩) n n) n (vals64 (natsTo xs k)) ∧ Below w.heap.size w wr) (fun i _ => n - (intOf i).toNat)
  case atStart => exact ⟨0, Nat.zero_le _, rfl, hown2, hbel2⟩
  case round =>
    obtain ⟨k, hk, rfl, hown, hbel⟩ := hrel
    clear hown2 hbel2
    by_cases hlt : k < n
    · obtain ⟨b, o, rfl, hb', hc⟩ := hx.at' (by omega)
      have hpk := hpos k hlt
      have hck : wr.cell? ⟨b, o + k, none⟩ = some (.int .i64 (eI xs k)) := (hbel.cell (p := ⟨b, o + k, none⟩) hb').trans (hc k hlt)
      have hc1 : wr.cell? ⟨w.heap.size, k, none⟩ = some (.int .u64 (el (natsTo xs k) k)) := by
        rw [hown.cellAt _ (by omega), vals64_get _ _ (by rw [natsTo_length, HX.out]; exact hlt)]
      have hf1 : wr.frozen? ⟨w.heap.size, k, none⟩ = false := hown.frozenAt _
      have hwr : IntKind.u64.wrap (eI xs k) = (((eI xs k).toNat : Nat) : Int) := by rw [IntKind.wrap_u64]; omega
      have HV : Hid ((vals64 (natsTo xs k)).set k (.int .u64 (((eI xs k).toNat : Nat) : Int)) = vals64 (natsTo xs (k + 1))) := natsTo_set xs k
      clear hc hpk
      generalize (eI xs k).toNat = Y at *
      generalize eI xs k = Z at *
      go_wp2
      go_roundw
      case rel =>
        have hst := hown.stored k (.int .u64 (Y : Int))
        rw [HV.out] at hst
        exact ⟨k + 1, by omega, by go_num, hst.1, hbel.setCell (p := ⟨w.heap.size, k, none⟩) (Nat.le_refl _) _⟩
      case measure => simp [intOf]; omega
    · have hkn : k = n := by omega
      subst hkn
      go_wp2
      go_ret
      have hlim := natsL_lim HX.out hpos
      have hall := natsTo_all xs
      rw [HX.out] at hall
      rw [hall] at hown
      obtain ⟨p', c', hv, hin⟩ := in64_of_owns hown (fun x hx => by have := hlim x hx; omega) (by omega)
      cases hv
      exact ⟨_, _, rfl, hin, hbel⟩
/-- Numbers with a sign. -/
def intsL (xs : List Nat) : List Int := xs.map fun x : Nat => (x : Int)
def intsTo (xs : List Nat) (k : Nat) : List Int := (List.range xs.length).map fun i => if i < k then el xs i else 0
theorem intsTo_length (xs : List Nat) (k : Nat) : (intsTo xs k).length = xs.length := by simp [intsTo]
theorem intsL_length (xs : List Nat) : (intsL xs).length = xs.length := by simp [intsL]
theorem intsTo_zero (xs : List Nat) : intsTo xs 0 = List.replicate xs.length 0 := by
  apply List.ext_getElem (by simp [intsTo])
  intro i h1 h2
  simp [intsTo]
theorem intsTo_all (xs : List Nat) : intsTo xs xs.length = intsL xs := by
  apply List.ext_getElem (by simp [intsTo, intsL])
  intro i h1 h2
  have hi : i < xs.length := by simpa [intsTo] using h1
  simp [intsTo, intsL, hi, el]
theorem intsTo_set (xs : List Nat) (k : Nat) : (valsI (intsTo xs k)).set k (.int .i64 (el xs k)) = valsI (intsTo xs (k + 1)) := by
  apply List.ext_getElem?
  intro i
  by_cases h : k = i
  · subst h
    by_cases hk : k < xs.length
    · simp [valsI, intsTo, hk]
    · rw [List.getElem?_eq_none (by simp [valsI, intsTo]; omega), List.getElem?_eq_none (by simp [valsI, intsTo]; omega)]
  · rw [List.getElem?_set_ne h]
    simp only [valsI, intsTo, List.getElem?_map]
    rcases Nat.lt_or_ge i xs.length with hi | hi
    · simp only [List.getElem?_range hi, Option.map_some]
      by_cases hik : i < k
      · rw [if_pos hik, if_pos (by omega)]
      · rw [if_neg hik, if_neg (by omega)]
    · rw [List.getElem?_eq_none (by simpa using hi)]; rfl
theorem madeL {w : World} {B g n : Nat} (h : w.ownsRow B 2 1 (.slice (some ⟨g, 0, none⟩) n n) n (madeCells (Value.int .i64 0).cells (n * 1)).toList) :
    w.ownsRow B 2 1 (.slice (some ⟨g, 0, none⟩) n n) n (valsI (List.replicate n 0)) := by
  rw [show (Value.int .i64 0).cells = #[Value.int .i64 0] from rfl, toList_madeCells_one, Nat.mul_one] at h
  rw [show valsI (List.replicate n 0) = List.replicate n (Value.int .i64 0) from by simp [valsI]]
  exact h
set_option linter.unusedSimpArgs false in
set_option maxHeartbeats 1000000 in
theorem signed_any (p : Option Addr) (n c : Nat) (xs : List Nat) (w : World) (hx : In64 w p n c xs) (hn : n ≤ 64) (hlim : ∀ j, j < n → el xs j ≤ 16777215) :
    Calls Try.prog 96 #[.slice p n c] w fun e w' => ∃ p' c', e = .returned (.slice p' n c') ∧ w'.ownsRow w.heap.size 2 1 (.slice p' n c') n (valsI (intsL xs)) ∧ Below w.heap.size w w' := by
  have HX : Hid (xs.length = n) := hx.len
  obtain ⟨i0, hi, hz0, hz1, hz2⟩ := info_parts info2
  go_enter Try.func96, Try.ntmps96
  go_wp2_with (at_make; refine wpList_make_full _ rfl _ _ 23 rfl w.heap.size 2 i0 (.int .i64 0) 1 Try.underlying23 hi hz0 hz1 .i64 .i64 _ _ n rfl rfl rfl rfl (by rw [hz2]; omega) (by unfold maxLen; omega) (Nat.le_refl _) ?_; intro w1 hown1 hgrow1)
  have hown2 : w1.ownsRow w.heap.size 2 1 (.slice (some ⟨w.heap.size, 0, none⟩) n n) n (valsI (intsTo xs 0)) := by rw [intsTo_zero, HX.out]; exact madeL hown1
  have hbel2 := below_grown0 hgrow1
  clear hown1 hgrow1
  go_loopw [11] (fun i wr => ∃ k : Nat, k ≤ n ∧ i = .int .i64 k ∧ wr.ownsRow w.heap.size 2 1 (.slice (some ⟨w.heap.size, 0, none⟩) n n) n (valsI (intsTo xs k)) ∧ Below w.heap.size w wr) (fun i _ => n - (intOf i).toNat)
  case atStart => exact ⟨0, Nat.zero_le _, rfl, hown2, hbel2⟩
  case round =>
    obtain ⟨k, hk, rfl, hown, hbel⟩ := hrel
    clear hown2 hbel2
    by_cases hlt : k < n
    · obtain ⟨b, o, rfl, hb', hc⟩ := hx.at' (by omega)
      have hck : wr.cell? ⟨b, o + k, none⟩ = some (.int .u64 (el xs k)) := (hbel.cell (p := ⟨b, o + k, none⟩) hb').trans (hc k hlt)
      have hc1 : wr.cell? ⟨w.heap.size, k, none⟩ = some (.int .i64 (eI (intsTo xs k) k)) := by
        rw [hown.cellAt _ (by omega), valsI_get _ _ (by rw [intsTo_length, HX.out]; exact hlt)]
      have hf1 : wr.frozen? ⟨w.heap.size, k, none⟩ = false := hown.frozenAt _
      have hl0 := hlim k hlt
      have hl1 : 0 ≤ el xs k := by unfold el; omega
      have hwr : IntKind.i64.wrap (el xs k) = el xs k := by rw [IntKind.wrap_i64]; omega
      have hw2 : wrap64 (el xs k) = el xs k := (IntWalk.i64_left _).symm.trans hwr
      have HV : Hid ((valsI (intsTo xs k)).set k (.int .i64 (el xs k)) = valsI (intsTo xs (k + 1))) := intsTo_set xs k
      clear hc hl0 hl1
      generalize el xs k = Z at *
      go_wp2
      go_roundw
      case rel =>
        have hst := hown.stored k (.int .i64 Z)
        rw [HV.out] at hst
        exact ⟨k + 1, by omega, by go_num, hst.1, hbel.setCell (p := ⟨w.heap.size, k, none⟩) (Nat.le_refl _) _⟩
      case measure => simp [intOf]; omega
    · have hkn : k = n := by omega
      subst hkn
      go_wp2
      go_ret
      have hall := intsTo_all xs
      rw [HX.out] at hall
      rw [hall] at hown
      exact ⟨_, _, rfl, hown, hbel⟩
end Go.Proofs.Ytpikaagdiafieaa
