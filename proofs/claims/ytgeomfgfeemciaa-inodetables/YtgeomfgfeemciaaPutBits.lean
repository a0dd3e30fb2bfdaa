/-
  What seal's putBits does.
-/
import Derived.Test.YtgeomfgfeemciaaOwn
import Derived.Test.YtgeomfgfeemciaaFit
namespace Go.Proofs.Ytgeomfgfeemciaa
open Go.RowKit
/-- The byte list xs with the bit at place p made 1 where b says so. -/
def orAt (xs : List Nat) (p : Nat) (b : Bool) : List Nat := xs.set (p / 8) (xs.getD (p / 8) 0 ||| (if b then 2 ^ (7 - p % 8) else 0))
/-- The first k of the width bits of v laid at place p. -/
def setTo (xs : List Nat) (p width v : Nat) : Nat → List Nat
  | 0 => xs
  | k + 1 => orAt (setTo xs p width v k) (p + k) (v.testBit (width - 1 - k))
theorem orAt_length (xs : List Nat) (p : Nat) (b : Bool) : (orAt xs p b).length = xs.length := by simp [orAt]
theorem setTo_length (xs : List Nat) (p width v k : Nat) : (setTo xs p width v k).length = xs.length := by
  induction k with
  | zero => rfl
  | succ k ih => rw [setTo, orAt_length, ih]
theorem bit_and1 (v s : Nat) : bits .and .u8 ((v : Int) / 2 ^ s % 256) 1 = ((if v.testBit s then 1 else 0 : Nat) : Int) := by
  have e : ((v : Int) / 2 ^ s % 256) = ((v / 2 ^ s % 256 : Nat) : Int) := by rw [shr_nat]; omega
  rw [e, show (1 : Int) = ((1 : Nat) : Int) from rfl, u8_and_nat _ _ (by omega) (by decide), Nat.and_one_is_mod, Nat.testBit_eq_decide_div_mod_eq]
  by_cases h : v / 2 ^ s % 2 = 1
  · rw [if_pos (by simpa using h)]; omega
  · rw [if_neg (by simpa using h)]; omega
theorem pow7 (t : Nat) (h : t ≤ 7) : 2 ^ t < 256 := by
  have : t = 0 ∨ t = 1 ∨ t = 2 ∨ t = 3 ∨ t = 4 ∨ t = 5 ∨ t = 6 ∨ t = 7 := by omega
  rcases this with rfl | rfl | rfl | rfl | rfl | rfl | rfl | rfl <;> decide
theorem put_val {ys : List Nat} (hy : ∀ x ∈ ys, x < 256) (j v s t : Nat) (ht : t ≤ 7) :
    bits .or .u8 (el ys j) (bits .and .u8 ((v : Int) / 2 ^ s % 256) 1 * 2 ^ t % 256) = ((ys.getD j 0 ||| (if v.testBit s then 2 ^ t else 0) : Nat) : Int) := by
  have hp := pow7 t ht
  have hr := el_range hy j
  have e : (bits .and .u8 ((v : Int) / 2 ^ s % 256) 1 * 2 ^ t % 256) = (((if v.testBit s then 2 ^ t else 0 : Nat)) : Int) := by
    rw [bit_and1]
    have e2 : ((2 : Int) ^ t) = ((2 ^ t : Nat) : Int) := by simp
    cases v.testBit s with
    | true =>
      rw [e2]
      generalize 2 ^ t = T at hp ⊢
      simp only [if_true]
      rw [show ((1 : Nat) : Int) * (T : Int) = (T : Int) from by simp]
      omega
    | false => simp
  rw [e]
  have hl : (if v.testBit s then 2 ^ t else 0) < 256 := by split <;> omega
  have h2 : ys.getD j 0 < 256 := by unfold el at hr; omega
  exact u8_or_nat _ _ h2 hl
theorem orAt_byte {ys : List Nat} (hy : ∀ x ∈ ys, x < 256) (p : Nat) (b : Bool) : ∀ x ∈ orAt ys p b, x < 256 := by
  intro x hx
  unfold orAt at hx
  rcases List.mem_or_eq_of_mem_set hx with h | h
  · exact hy x h
  · rw [h]
    have hr := el_range hy (p / 8)
    have hp := pow7 (7 - p % 8) (by omega)
    have h2 : ys.getD (p / 8) 0 < 256 := by unfold el at hr; omega
    exact Nat.or_lt_two_pow (n := 8) h2 (by split <;> omega)
theorem setTo_byte {xs : List Nat} (hx : ∀ x ∈ xs, x < 256) (p width v k : Nat) : ∀ x ∈ setTo xs p width v k, x < 256 := by
  induction k with
  | zero => exact hx
  | succ k ih => exact orAt_byte ih _ _
theorem vals_set (xs : List Nat) (j x : Nat) : vals (xs.set j x) = (vals xs).set j (.int .u8 (x : Int)) := by simp [vals, List.map_set]
theorem putBits_any (B g n : Nat) (xs : List Nat) (p width v : Nat) (w : World) (hB : B ≤ g) (hown : w.ownsRow B 5 1 (.slice (some ⟨g, 0, none⟩) n n) n (vals xs)) (hx : ∀ x ∈ xs, x < 256)
    (hn : n ≤ 140737488355328) (hw : width ≤ 64) (hfit : p + width ≤ 8 * n) (_hv : v < 18446744073709551616) :
    Calls Try.prog 49 #[.slice (some ⟨g, 0, none⟩) n n, .int .i64 p, .int .i64 width, .int .u64 v] w fun e w' => e = .returned (.tuple #[]) ∧ w'.ownsRow B 5 1 (.slice (some ⟨g, 0, none⟩) n n) n (vals (setTo xs p width v width)) ∧ Below B w w' := by
  have HX : Hid (xs.length = n) := by show _ = _; have := hown.1; simpa [vals] using this
  go_enter Try.func49, Try.ntmps49
  go_wp2
  go_loopw [11] (fun i wr => ∃ k : Nat, k ≤ width ∧ i = .int .i64 k ∧ wr.ownsRow B 5 1 (.slice (some ⟨g, 0, none⟩) n n) n (vals (setTo xs p width v k)) ∧ Below B w wr) (fun i _ => width - (intOf i).toNat)
  case atStart => exact ⟨0, Nat.zero_le _, rfl, hown, Below.refl _ _⟩
  case round =>
    obtain ⟨k, hk, rfl, hown', hbel⟩ := hrel
    by_cases hlt : k < width
    · have hq : (p + k) / 8 < n := by omega
      have hc1 : wr.cell? ⟨g, (p + k) / 8, none⟩ = some (.int .u8 (el (setTo xs p width v k) ((p + k) / 8))) := by
        rw [hown'.cellAt _ (by omega), vals_get _ _ (by rw [setTo_length, HX.out]; exact hq)]
      have hf1 : wr.frozen? ⟨g, (p + k) / 8, none⟩ = false := hown'.frozenAt _
      clear hown
      go_wp2
      go_region
      all_goals (try go_wp2)
      all_goals
        go_roundw
        case rel =>
          have hpv := put_val (setTo_byte hx p width v k) ((p + k) / 8) v (width - 1 - k) (7 - (p + k) % 8) (by omega)
          have hst := hown'.stored ((p + k) / 8) (.int .u8 (bits .or .u8 (el (setTo xs p width v k) ((p + k) / 8)) (bits .and .u8 ((v : Int) / 2 ^ (width - 1 - k) % 256) 1 * 2 ^ (7 - (p + k) % 8) % 256)))
          refine ⟨k + 1, by omega, by go_num, ?_, (hbel.setCell (p := ⟨g, (p + k) / 8, none⟩) hB _).drew⟩
          have hs := hst.1.drew
          rw [setTo, orAt, vals_set, ← hpv]
          exact hs
        case measure => simp [intOf]; omega
    · have hkw : k = width := by omega
      subst hkw
      go_wp2
      go_end0
      exact ⟨rfl, hown', hbel⟩
end Go.Proofs.Ytgeomfgfeemciaa
