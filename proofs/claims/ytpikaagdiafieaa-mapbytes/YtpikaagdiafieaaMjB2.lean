/-
  Bits of bools, bools of bits; numbers with and without a sign.
-/
import Derived.Test.YtpikaagdiafieaaMjB1
namespace Go.Proofs.Ytpikaagdiafieaa
open Go.RowKit
def orLo (xs : List Nat) (i : Nat) : List Nat := xs.set (i / 8) (xs.getD (i / 8) 0 ||| 2 ^ (i % 8))
/-- The first k bools as bits, of each byte the lowest one first. -/
def bitsTo (bad : List Bool) : Nat → List Nat
  | 0 => List.replicate 8 0
  | k + 1 => if eB bad k then orLo (bitsTo bad k) k else bitsTo bad k
theorem bitsTo_length (bad : List Bool) (k : Nat) : (bitsTo bad k).length = 8 := by
  induction k with
  | zero => simp [bitsTo]
  | succ k ih =>
    unfold bitsTo
    split
    · unfold orLo; rw [List.length_set, ih]
    · exact ih
theorem orLo_byte {ys : List Nat} (hy : ∀ x ∈ ys, x < 256) (p : Nat) : ∀ x ∈ orLo ys p, x < 256 := by
  intro x hx
  unfold orLo at hx
  rcases List.mem_or_eq_of_mem_set hx with h | h
  · exact hy x h
  · rw [h]
    have hr := el_range hy (p / 8)
    have hp := pow7 (p % 8) (by omega)
    have h2 : ys.getD (p / 8) 0 < 256 := by unfold el at hr; omega
    exact Nat.or_lt_two_pow (n := 8) h2 hp
theorem bitsTo_byte (bad : List Bool) (k : Nat) : ∀ x ∈ bitsTo bad k, x < 256 := by
  induction k with
  | zero => intro x hx; simp [bitsTo] at hx; omega
  | succ k ih =>
    unfold bitsTo
    split
    · exact orLo_byte ih k
    · exact ih
theorem lo_val {ys : List Nat} (hy : ∀ x ∈ ys, x < 256) (j t : Nat) (ht : t ≤ 7) :
    bits .or .u8 (el ys j) (2 ^ t % 256) = ((ys.getD j 0 ||| 2 ^ t : Nat) : Int) := by
  have hp := pow7 t ht
  have hr := el_range hy j
  have e : ((2 : Int) ^ t % 256) = ((2 ^ t : Nat) : Int) := by
    have e2 : ((2 : Int) ^ t) = ((2 ^ t : Nat) : Int) := by simp
    rw [e2]; generalize 2 ^ t = T at *; omega
  rw [e]
  have h2 : ys.getD j 0 < 256 := by unfold el at hr; omega
  exact u8_or_nat _ _ h2 hp
set_option linter.unusedSimpArgs false in
set_option maxHeartbeats 1000000 in
theorem bitsOf_any (p : Option Addr) (n c : Nat) (bad : List Bool) (w : World) (hx : InB w p n c bad) (hn : n ≤ 64) :
    Calls Try.prog 82 #[.slice p n c] w fun e w' => ∃ g', e = .returned (.slice (some ⟨g', 0, none⟩) 8 8) ∧ In w' (some ⟨g', 0, none⟩) 8 8 (bitsTo bad n) ∧ Below w.heap.size w w' := by
  have HX : Hid (bad.length = n) := hx.len
  obtain ⟨i0, hi, hz0, hz1, hz2⟩ := info_parts info5
  go_enter Try.func82, Try.ntmps82
  go_wp2_with (at_make; refine wpList_make_full _ rfl _ _ 53 rfl w.heap.size 5 i0 (.int .u8 0) 1 Try.underlying53 hi hz0 hz1 .i64 .i64 _ _ 8 rfl rfl rfl rfl (by rw [hz2]; omega) (by unfold maxLen; omega) (Nat.le_refl _) ?_; intro w1 hown1 hgrow1)
  have hown2 : w1.ownsRow w.heap.size 5 1 (.slice (some ⟨w.heap.size, 0, none⟩) 8 8) 8 (vals (bitsTo bad 0)) := made_owns hown1
  have hbel2 := below_grown0 hgrow1
  clear hown1 hgrow1
  go_loopw [9] (fun i wr => ∃ k : Nat, k ≤ n ∧ i = .int .i64 k ∧ wr.ownsRow w.heap.size 5 1 (.slice (some ⟨w.heap.size, 0, none⟩) 8 8) 8 (vals (bitsTo bad k)) ∧ Below w.heap.size w wr) (fun i _ => n - (intOf i).toNat)
  case atStart => exact ⟨0, Nat.zero_le _, rfl, hown2, hbel2⟩
  case round =>
    obtain ⟨k, hk, rfl, hown, hbel⟩ := hrel
    clear hown2 hbel2
    by_cases hlt : k < n
    · obtain ⟨b, o, rfl, hb', hc⟩ := hx.at' (by omega)
      have hck : wr.cell? ⟨b, o + k, none⟩ = some (.bool (eB bad k)) := (hbel.cell (p := ⟨b, o + k, none⟩) hb').trans (hc k hlt)
      have hq : k / 8 < 8 := by omega
      have hc1 : wr.cell? ⟨w.heap.size, k / 8, none⟩ = some (.int .u8 (el (bitsTo bad k) (k / 8))) := by
        rw [hown.cellAt _ (by omega), vals_get _ _ (by rw [bitsTo_length]; exact hq)]
      have hf1 : wr.frozen? ⟨w.heap.size, k / 8, none⟩ = false := hown.frozenAt _
      clear hc
      cases he : eB bad k with
      | false =>
        rw [he] at hck
        have E : Hid (bitsTo bad (k + 1) = bitsTo bad k) := by show _ = _; rw [bitsTo, he]; rfl
        clear he
        go_wp2
        go_roundw
        case rel => exact ⟨k + 1, by omega, by go_num, by rw [E.out]; exact hown, hbel⟩
        case measure => simp [intOf]; omega
      | true =>
        rw [he] at hck
        have E : Hid (bitsTo bad (k + 1) = orLo (bitsTo bad k) k) := by show _ = _; rw [bitsTo, he]; rfl
        clear he
        go_wp2
        go_region
        all_goals (try go_wp2)
        all_goals
          go_roundw
          case rel =>
            have hpv := lo_val (bitsTo_byte bad k) (k / 8) (k % 8) (by omega)
            have hst := hown.stored (k / 8) (.int .u8 (bits .or .u8 (el (bitsTo bad k) (k / 8)) (2 ^ (k % 8) % 256)))
            refine ⟨k + 1, by omega, by go_num, ?_, (hbel.setCell (p := ⟨w.heap.size, k / 8, none⟩) (Nat.le_refl _) _).drew⟩
            have hs := hst.1.drew
            rw [E.out, orLo, vals_set, ← hpv]
            exact hs
          case measure => simp [intOf]; omega
    · have hkn : k = n := by omega
      subst hkn
      go_wp2
      go_ret
      obtain ⟨p', c', hv, hin⟩ := in_of_owns hown (bitsTo_byte bad k) (by omega)
      cases hv
      exact ⟨_, rfl, hin, hbel⟩
/-- The first k of many bools off bits. -/
def boolsTo (xs : List Nat) (many k : Nat) : List Bool := (List.range many).map fun i => if i < k then (xs.getD (i / 8) 0).testBit (i % 8) else false
/-- Bools off bits. -/
def boolsL (xs : List Nat) (many : Nat) : List Bool := (List.range many).map fun i => (xs.getD (i / 8) 0).testBit (i % 8)
theorem boolsTo_length (xs : List Nat) (many k : Nat) : (boolsTo xs many k).length = many := by simp [boolsTo]
theorem boolsL_length (xs : List Nat) (many : Nat) : (boolsL xs many).length = many := by simp [boolsL]
theorem boolsTo_all (xs : List Nat) (many : Nat) : boolsTo xs many many = boolsL xs many := by
  unfold boolsTo boolsL
  apply List.map_congr_left
  intro i hi
  rw [if_pos (List.mem_range.1 hi)]
theorem boolsTo_zero (xs : List Nat) (many : Nat) : boolsTo xs many 0 = List.replicate many false := by
  apply List.ext_getElem (by simp [boolsTo])
  intro i h1 h2
  simp [boolsTo]
theorem boolsTo_set (xs : List Nat) (many k : Nat) : (valsB (boolsTo xs many k)).set k (.bool ((xs.getD (k / 8) 0).testBit (k % 8))) = valsB (boolsTo xs many (k + 1)) := by
  apply List.ext_getElem?
  intro i
  by_cases h : k = i
  · subst h
    by_cases hk : k < many
    · simp [valsB, boolsTo, hk]
    · rw [List.getElem?_eq_none (by simp [valsB, boolsTo]; omega), List.getElem?_eq_none (by simp [valsB, boolsTo]; omega)]
  · rw [List.getElem?_set_ne h]
    simp only [valsB, boolsTo, List.getElem?_map]
    rcases Nat.lt_or_ge i many with hi | hi
    · simp only [List.getElem?_range hi, Option.map_some]
      by_cases hik : i < k
      · rw [if_pos hik, if_pos (by omega)]
      · rw [if_neg hik, if_neg (by omega)]
    · rw [List.getElem?_eq_none (by simpa using hi)]; rfl
theorem madeB {w : World} {B g n : Nat} (h : w.ownsRow B 4 1 (.slice (some ⟨g, 0, none⟩) n n) n (madeCells (Value.bool false).cells (n * 1)).toList) :
    w.ownsRow B 4 1 (.slice (some ⟨g, 0, none⟩) n n) n (valsB (List.replicate n false)) := by
  rw [show (Value.bool false).cells = #[Value.bool false] from rfl, toList_madeCells_one, Nat.mul_one] at h
  rw [show valsB (List.replicate n false) = List.replicate n (Value.bool false) from by simp [valsB]]
  exact h
theorem infoBo : (Try.prog.info? 4).map (fun i => (i.zero, i.size, i.bytes)) = some (some (.bool false), 1, 1) := by kernel_rfl
theorem one_bit (x s : Nat) (hx : x < 256) : (bits .and .u8 ((x : Int) / 2 ^ s) 1 == 1) = x.testBit s := by
  rw [get_bit x s hx]
  cases x.testBit s <;> rfl
set_option linter.unusedSimpArgs false in
set_option maxHeartbeats 1000000 in
theorem boolsOf_any (q : Option Addr) (m d many : Nat) (xs : List Nat) (w : World) (hx : In w q m d xs) (hm : many ≤ 8 * m) (h64 : many ≤ 64) :
    Calls Try.prog 95 #[.slice q m d, .int .i64 (many : Int)] w fun e w' => ∃ p' c', e = .returned (.slice p' many c') ∧ w'.ownsRow w.heap.size 4 1 (.slice p' many c') many (valsB (boolsL xs many)) ∧ Below w.heap.size w w' := by
  have HX : Hid (xs.length = m) := hx.len
  obtain ⟨i0, hi, hz0, hz1, hz2⟩ := info_parts infoBo
  go_enter Try.func95, Try.ntmps95
  go_wp2_with (at_make; refine wpList_make_full _ rfl _ _ 22 rfl w.heap.size 4 i0 (.bool false) 1 Try.underlying22 hi hz0 hz1 .i64 .i64 _ _ many rfl rfl rfl rfl (by rw [hz2]; omega) (by unfold maxLen; omega) (Nat.le_refl _) ?_; intro w1 hown1 hgrow1)
  have hown2 : w1.ownsRow w.heap.size 4 1 (.slice (some ⟨w.heap.size, 0, none⟩) many many) many (valsB (boolsTo xs many 0)) := by rw [boolsTo_zero]; exact madeB hown1
  have hbel2 := below_grown0 hgrow1
  clear hown1 hgrow1
  go_loopw [11] (fun i wr => ∃ k : Nat, k ≤ many ∧ i = .int .i64 k ∧ wr.ownsRow w.heap.size 4 1 (.slice (some ⟨w.heap.size, 0, none⟩) many many) many (valsB (boolsTo xs many k)) ∧ Below w.heap.size w wr) (fun i _ => many - (intOf i).toNat)
  case atStart => exact ⟨0, Nat.zero_le _, rfl, hown2, hbel2⟩
  case round =>
    obtain ⟨k, hk, rfl, hown, hbel⟩ := hrel
    clear hown2 hbel2
    by_cases hlt : k < many
    · obtain ⟨b, o, rfl, hb', hc⟩ := hx.at' (by omega)
      have hck : wr.cell? ⟨b, o + k / 8, none⟩ = some (.int .u8 (el xs (k / 8))) := (hbel.cell (p := ⟨b, o + k / 8, none⟩) hb').trans (hc (k / 8) (by omega))
      have hc1 : wr.cell? ⟨w.heap.size, k, none⟩ = some (.bool (eB (boolsTo xs many k) k)) := by
        rw [hown.cellAt _ (by omega), valsB_get _ _ (by rw [boolsTo_length]; exact hlt)]
      have hf1 : wr.frozen? ⟨w.heap.size, k, none⟩ = false := hown.frozenAt _
      have hbit : (bits .and .u8 (el xs (k / 8) / 2 ^ (k % 8)) 1 == 1) = (xs.getD (k / 8) 0).testBit (k % 8) := by
        have hr := hx.range (k / 8)
        exact one_bit _ _ (by unfold el at hr; omega)
      have HV : Hid ((valsB (boolsTo xs many k)).set k (.bool ((xs.getD (k / 8) 0).testBit (k % 8))) = valsB (boolsTo xs many (k + 1))) := boolsTo_set xs many k
      have hq8 : k / 8 < m := by omega
      clear hc
      go_wp2
      go_roundw
      case rel =>
        have hst := hown.stored k (.bool ((xs.getD (k / 8) 0).testBit (k % 8)))
        rw [HV.out] at hst
        exact ⟨k + 1, by omega, by go_num, hst.1, hbel.setCell (p := ⟨w.heap.size, k, none⟩) (Nat.le_refl _) _⟩
      case measure => simp [intOf]; omega
    · have hkn : k = many := by omega
      subst hkn
      go_wp2
      go_ret
      rw [boolsTo_all] at hown
      exact ⟨_, _, rfl, hown, hbel⟩
end Go.Proofs.Ytpikaagdiafieaa
