/-
  What pool's small functions and Check answer.
-/
import Derived.Test.YtigkfmdhmonjlaaPoBase
namespace Go.Proofs.Ytigkfmdhmonjlaa
open Go.RowKit
theorem within_any (a b c : Int) (w : World) : Calls Try.prog 41 #[.int .i64 a, .int .i64 b, .int .i64 c] w fun e w' => e = .returned (.bool (decide (b ≤ a) && decide (a ≤ c))) ∧ w' = w := by
  by_cases h1 : b ≤ a
  · by_cases h2 : a ≤ c
    · go_enter Try.func41, Try.ntmps41
      go_wp2
      go_ret
      exact ⟨ret_bool (by simp [h1, h2]), rfl⟩
    · go_enter Try.func41, Try.ntmps41
      go_wp2
      go_ret
      exact ⟨ret_bool (by simp [h2]), rfl⟩
  · go_enter Try.func41, Try.ntmps41
    go_wp2
    go_ret
    exact ⟨ret_bool (by rw [decide_eq_false (Int.not_le.2 h1)]; rfl), rfl⟩
theorem within_yes {a b c : Int} (w : World) (h1 : b ≤ a) (h2 : a ≤ c) : Calls Try.prog 41 #[.int .i64 a, .int .i64 b, .int .i64 c] w fun e w' => e = .returned (.bool true) ∧ w' = w := by
  have := within_any a b c w
  rwa [show (decide (b ≤ a) && decide (a ≤ c)) = true from by simp [h1, h2]] at this
theorem within_no {a b c : Int} (w : World) (h : ¬ (b ≤ a ∧ a ≤ c)) : Calls Try.prog 41 #[.int .i64 a, .int .i64 b, .int .i64 c] w fun e w' => e = .returned (.bool false) ∧ w' = w := by
  have := within_any a b c w
  rwa [show (decide (b ≤ a) && decide (a ≤ c)) = false from by simp only [Bool.and_eq_false_iff, decide_eq_false_iff_not]; omega] at this
theorem wearsMayBe_any (q : Option Addr) (m d : Nat) (W : List Int) (w : World) (hW : InI w q m d W) :
    Calls Try.prog 45 #[.slice q m d] w fun e w' => e = .returned (.bool (W.all okWear)) ∧ w' = w := by
  have hroom := hW.room
  have HX : Hid (W.length = m) := hW.len
  go_enter Try.func45, Try.ntmps45
  go_wp2
  go_loop [7] (fun i => ∃ k : Nat, k ≤ m ∧ i = .int .i64 k ∧ ∀ j, j < k → okWear (eI W j) = true) (fun i => m - (intOf i).toNat)
  case atStart => exact ⟨0, Nat.zero_le _, rfl, fun j h => by omega⟩
  case round =>
    obtain ⟨k, hk, rfl, hall⟩ := hrel
    have HA : Hid (∀ j, j < k → okWear (eI W j) = true) := hall
    clear hall
    by_cases hlt : k < m
    · obtain ⟨b, o, rfl, hb', hc⟩ := hW.at' (by omega)
      have hck := hc k hlt
      clear hc
      cases hok : okWear (eI W k) with
      | true =>
        have ho := okWear_iff.1 hok
        have HO : Hid (okWear (eI W k) = true) := hok
        clear hok
        have hd1 : ¬ eI W k < 0 := by omega
        have hd2 : ¬ 16777215 < eI W k := by omega
        go_wp2
        go_round
        case rel =>
          refine ⟨k + 1, by omega, by go_num, fun j hj => ?_⟩
          rcases Nat.lt_succ_iff_lt_or_eq.1 hj with h | h
          · exact HA.out j h
          · rw [h]; exact HO.out
        case measure => simp [intOf]; omega
      | false =>
        have E1 : Hid (W.all okWear = false) := all_of_not (by rw [HX.out]; exact hlt) hok
        have hn := okWear_no hok
        clear hok
        rcases hn with hn | hn
        · go_wp2
          go_ret
          rw [E1.out]
          exact ⟨rfl, rfl⟩
        · have hn1 : ¬ eI W k < 0 := by omega
          go_wp2
          go_ret
          rw [E1.out]
          exact ⟨rfl, rfl⟩
    · have E1 : Hid (W.all okWear = true) := eI_all.2 fun j hj => HA.out j (by have := HX.out; omega)
      go_wp2
      go_ret
      rw [E1.out]
      exact ⟨rfl, rfl⟩
/-- Roles for which blocks are taken. -/
def okUse (x : Int) : Bool := decide (2 ≤ x) && decide (x ≤ 5)
theorem inUse_any (x : Int) (w : World) : Calls Try.prog 47 #[.int .i64 x] w fun e w' => e = .returned (.bool (okUse x)) ∧ w' = w := by
  by_cases h2 : x = 2
  · subst h2
    go_enter Try.func47, Try.ntmps47
    go_wp2
    go_ret
    exact ⟨rfl, rfl⟩
  · by_cases h3 : x = 3
    · subst h3
      go_enter Try.func47, Try.ntmps47
      go_wp2
      go_ret
      exact ⟨rfl, rfl⟩
    · by_cases h4 : x = 4
      · subst h4
        go_enter Try.func47, Try.ntmps47
        go_wp2
        go_ret
        exact ⟨rfl, rfl⟩
      · by_cases h5 : x = 5
        · subst h5
          go_enter Try.func47, Try.ntmps47
          go_wp2
          go_ret
          exact ⟨rfl, rfl⟩
        · have b2 : (x == 2) = false := by simpa using h2
          have b3 : (x == 3) = false := by simpa using h3
          have b4 : (x == 4) = false := by simpa using h4
          have b5 : (x == 5) = false := by simpa using h5
          have E : Hid (okUse x = false) := by
            show _ = _
            simp only [okUse, Bool.and_eq_false_iff, decide_eq_false_iff_not]; omega
          clear h2 h3 h4 h5
          go_enter Try.func47, Try.ntmps47
          go_wp2
          go_ret
          rw [E.out]
          exact ⟨rfl, rfl⟩
theorem less_any (x y : Int) (w : World) : Calls Try.prog 52 #[.int .i64 x, .int .i64 y] w fun e w' => e = .returned (.bool (decide (x < y))) ∧ w' = w := by
  go_enter Try.func52, Try.ntmps52
  go_wp2
  go_ret
  exact ⟨rfl, rfl⟩
theorem more_any (x y : Int) (w : World) : Calls Try.prog 55 #[.int .i64 x, .int .i64 y] w fun e w' => e = .returned (.bool (decide (y < x))) ∧ w' = w := by
  go_enter Try.func55, Try.ntmps55
  go_wp2
  go_ret
  exact ⟨rfl, rfl⟩
theorem check_any (p q : Option Addr) (n c m d : Nat) (R W : List Int) (w : World) (hR : InI w p n c R) (hW : InI w q m d W) :
    Calls Try.prog 14 #[.agg #[.slice p n c, .slice q m d]] w fun e w' => e = .returned (.int .i64 (checkE R W)) ∧ Below w.heap.size w w' := by
  have HR : Hid (R.length = n) := hR.len
  have HW : Hid (W.length = m) := hW.len
  have hroom := hR.room
  by_cases hnm : n = m
  · subst hnm
    by_cases hn : 16 ≤ (n : Int) ∧ (n : Int) ≤ 256
    · have hRb := hR.below (below_alloc w (.cells #[.slice p n c, .slice q n d] 25))
      have hWb := hW.below (below_alloc w (.cells #[.slice p n c, .slice q n d] 25))
      have HB : Hid (Below w.heap.size w (w.alloc (.cells #[.slice p n c, .slice q n d] 25))) := below_alloc w _
      obtain ⟨b, o, rfl, hb', hc⟩ := hRb.at' (by omega)
      clear hR hW
      go_enter Try.func14, Try.ntmps14
      go_wp2_with (go_at_call 41; refine (within_yes _ hn.1 hn.2).mono ?_; rintro e w' ⟨rfl, hw'⟩; have hw2 := hw'.symm; subst hw2; clear hw')
      go_loop [22] (fun i => ∃ k : Nat, k ≤ n ∧ i = .int .i64 k ∧ ∀ j, j < k → okR (eI R j) = true) (fun i => n - (intOf i).toNat)
      case atStart => exact ⟨0, Nat.zero_le _, rfl, fun j h => by omega⟩
      case round =>
        obtain ⟨k, hk, rfl, hall⟩ := hrel
        have HA : Hid (∀ j, j < k → okR (eI R j) = true) := hall
        clear hall
        by_cases hlt : k < n
        · have hck := hc k hlt
          clear hc
          cases hok : okR (eI R k) with
          | true =>
            have ho := okR_iff.1 hok
            have HO : Hid (okR (eI R k) = true) := hok
            clear hok
            go_wp2_with (go_at_call 41; refine (within_yes _ ho.1 ho.2).mono ?_; rintro e w' ⟨rfl, hw'⟩; have hw2 := hw'.symm; subst hw2; clear hw')
            go_round
            case rel =>
              refine ⟨k + 1, by omega, by go_num, fun j hj => ?_⟩
              rcases Nat.lt_succ_iff_lt_or_eq.1 hj with h | h
              · exact HA.out j h
              · rw [h]; exact HO.out
            case measure => simp [intOf]; omega
          | false =>
            have E1 : Hid (checkE R W = 40) := checkE_no (okPool_noR (all_of_not (by rw [HR.out]; exact hlt) hok))
            have hnn := okR_no hok
            clear hok
            have hno : ¬ (1 ≤ eI R k ∧ eI R k ≤ 6) := by omega
            clear hnn
            go_wp2_with (go_at_call 41; refine (within_no _ hno).mono ?_; rintro e w' ⟨rfl, hw'⟩; have hw2 := hw'.symm; subst hw2; clear hw')
            go_ret
            rw [E1.out]
            exact ⟨rfl, HB.out⟩
        · have E1 : Hid (R.all okR = true) := eI_all.2 fun j hj => HA.out j (by have := HR.out; omega)
          clear hc
          cases hww : W.all okWear with
          | true =>
            have E2 : Hid (checkE R W = 0) := checkE_ok (okPool_iff.2 ⟨⟨by rw [HR.out, HW.out], by rw [HR.out]; omega, by rw [HR.out]; omega⟩, E1.out, hww⟩)
            go_wp2_with (go_at_call 45; refine (wearsMayBe_any _ _ _ W _ hWb).mono ?_; rintro e w' ⟨rfl, hw'⟩; have hw2 := hw'.symm; subst hw2; clear hw'; rw [hww])
            go_ret
            rw [E2.out]
            exact ⟨rfl, HB.out⟩
          | false =>
            have E2 : Hid (checkE R W = 40) := checkE_no (okPool_noW hww)
            go_wp2_with (go_at_call 45; refine (wearsMayBe_any _ _ _ W _ hWb).mono ?_; rintro e w' ⟨rfl, hw'⟩; have hw2 := hw'.symm; subst hw2; clear hw'; rw [hww])
            go_ret
            rw [E2.out]
            exact ⟨rfl, HB.out⟩
    · have E : Hid (checkE R W = 40) := checkE_no (okPool_noN (by rw [HR.out]; omega))
      go_enter Try.func14, Try.ntmps14
      go_wp2_with (go_at_call 41; refine (within_no _ hn).mono ?_; rintro e w' ⟨rfl, hw'⟩; have hw2 := hw'.symm; subst hw2; clear hw')
      go_ret
      rw [E.out]
      exact ⟨rfl, below_alloc _ _⟩
  · have E : Hid (checkE R W = 40) := checkE_no (okPool_noL (by rw [HR.out, HW.out]; exact hnm))
    have hne : ((n : Int) != (m : Int)) = true := by rw [bne_iff_ne]; omega
    go_enter Try.func14, Try.ntmps14
    go_wp2
    go_ret
    rw [E.out]
    exact ⟨rfl, below_alloc _ _⟩
end Go.Proofs.Ytigkfmdhmonjlaa
