/-
  What the reference Covers answers.
-/
import Derived.Test.YthafcnilhloldaaRefMask
namespace Go.Proofs.Ythafcnilhloldaa
open Go.RowKit
theorem or_cov (x y : Int) (hx : 0 ≤ x ∧ x ≤ 255) (hy : 0 ≤ y ∧ y ≤ 255) : (bits .or .u8 x y != x) = !(cov1 x.toNat y.toNat) := by
  rw [u8_or x y hx.1 (by omega) hy.1 (by omega)]
  obtain ⟨X, rfl⟩ := Int.eq_ofNat_of_zero_le hx.1
  rw [Int.toNat_natCast]
  unfold cov1
  by_cases h : (X ||| y.toNat) = X
  · rw [h]; simp
  · have h2 : ¬ ((X ||| y.toNat : Nat) : Int) = (X : Int) := by omega
    rw [beq_eq_false_iff_ne.2 h, bne_iff_ne.2 h2]; rfl
theorem refCovers_any (p q : Option Addr) (n c m d : Nat) (xs ys : List Nat) (w : World) (hx : In w p n c xs) (hy : In w q m d ys) :
    Calls Try.prog 49 #[.slice p n c, .slice q m d] w fun e w' => e = .returned (.bool (covers xs ys)) ∧ Below w.heap.size w w' := by
  have hroom := hx.room
  have HX : Hid (xs.length = n) := hx.len
  have HY : Hid (ys.length = m) := hy.len
  by_cases hnm : n = m
  · subst hnm
    go_enter Try.func49, Try.ntmps49
    go_wp2
    go_loopw [5] (fun i wr => ∃ k : Nat, k ≤ n ∧ i = .int .i64 k ∧ (∃ j, wr = w.drewN j) ∧ ∀ i, i < k → cov1 (xs.getD i 0) (ys.getD i 0) = true) (fun i _ => n - (intOf i).toNat)
    case atStart => exact ⟨0, Nat.zero_le _, rfl, ⟨0, rfl⟩, fun i h => by omega⟩
    case round =>
      obtain ⟨k, hk, rfl, ⟨j, rfl⟩, hall⟩ := hrel
      have HA : Hid (∀ i, i < k → cov1 (xs.getD i 0) (ys.getD i 0) = true) := hall
      clear hall
      by_cases hlt : k < n
      · obtain ⟨b, o, rfl, hb, hc⟩ := hx.at' (by omega)
        obtain ⟨b', o', rfl, hb', hc'⟩ := hy.at' (by omega)
        have hck := hc k hlt
        have hck' := hc' k hlt
        clear hc hc'
        have HC : Hid ((bits .or .u8 (el xs k) (el ys k) != el xs k) = !(cov1 (xs.getD k 0) (ys.getD k 0))) := by
          have := or_cov (el xs k) (el ys k) (hx.range k) (hy.range k)
          rw [el_toNat, el_toNat] at this; exact this
        go_wp2
        go_quiet (fail)
        go_wp2
        · rename_i ht
          go_ret
          have hf : cov1 (xs.getD k 0) (ys.getD k 0) = false := by rw [HC.out] at ht; simpa using ht
          refine ⟨ret_bool ?_, below_drewN (below_drewN (Below.refl _ _) _) _⟩
          cases h : covers xs ys with
          | false => rfl
          | true => rw [((covers_iff xs ys).1 h).2 k (by rw [HX.out]; exact hlt)] at hf; simp at hf
        · rename_i ht
          have hf : cov1 (xs.getD k 0) (ys.getD k 0) = true := by rw [HC.out] at ht; simpa using ht
          go_roundw
          case rel =>
            refine ⟨k + 1, by omega, by go_num, ⟨_, rfl⟩, fun i hi => ?_⟩
            rcases Nat.lt_succ_iff_lt_or_eq.1 hi with h | h
            · exact HA.out i h
            · rw [h]; exact hf
          case measure => simp [intOf]; omega
      · go_wp2
        go_ret
        refine ⟨ret_bool ?_, below_drewN (Below.refl _ _) _⟩
        exact ((covers_iff xs ys).2 ⟨by rw [HX.out, HY.out], fun i hi => HA.out i (by have := HX.out; omega)⟩).symm
  · have hne : ((n : Int) != (m : Int)) = true := by rw [bne_iff_ne]; omega
    go_enter Try.func49, Try.ntmps49
    go_wp2
    go_ret
    refine ⟨ret_bool ?_, Below.refl _ _⟩
    cases h : covers xs ys with
    | false => rfl
    | true => have := ((covers_iff xs ys).1 h).1; rw [HX.out, HY.out] at this; exact absurd this hnm
end Go.Proofs.Ythafcnilhloldaa
