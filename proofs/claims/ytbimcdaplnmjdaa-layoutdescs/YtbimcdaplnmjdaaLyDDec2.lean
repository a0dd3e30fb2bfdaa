/-
  What layout.DecodeDescs answers.
-/
import Derived.Test.YtbimcdaplnmjdaaLyDDec
namespace Go.Proofs.Ytbimcdaplnmjdaa
open Go.RowKit
/-- Whether bytes are those of so many descriptors. -/
def ddOk (xs : List Nat) (n : Nat) : Bool := (xs.length == 256) && (edL (rdD xs n) == xs)
def ddE (xs : List Nat) (n : Int) : Int := if 0 ≤ n ∧ n ≤ 16 then (if ddOk xs n.toNat then 0 else 111) else 1
def ddL (xs : List Nat) (n : Int) : List Dsc := if ddE xs n = 0 then rdD xs n.toNat else []
theorem dd_far {xs : List Nat} {n : Int} (h : ¬ (0 ≤ n ∧ n ≤ 16)) : ddE xs n = 1 ∧ ddL xs n = [] := by
  have e : ddE xs n = 1 := by unfold ddE; rw [if_neg h]
  exact ⟨e, by unfold ddL; rw [e]; rfl⟩
theorem dd_no {xs : List Nat} {n : Nat} (hn : n ≤ 16) (h : ddOk xs n = false) : ddE xs (n : Int) = 111 ∧ ddL xs (n : Int) = [] := by
  have e : ddE xs (n : Int) = 111 := by unfold ddE; rw [if_pos (by omega), Int.toNat_natCast, h]; rfl
  exact ⟨e, by unfold ddL; rw [e]; rfl⟩
theorem dd_ok {xs : List Nat} {n : Nat} (hn : n ≤ 16) (h : ddOk xs n = true) : ddE xs (n : Int) = 0 ∧ ddL xs (n : Int) = rdD xs n := by
  have e : ddE xs (n : Int) = 0 := by unfold ddE; rw [if_pos (by omega), Int.toNat_natCast, h]; rfl
  exact ⟨e, by unfold ddL; rw [e, Int.toNat_natCast]; rfl⟩
theorem rdE_zero (xs : List Nat) {n : Nat} (hn : n ≤ 16) : edE (rdD xs n) = 0 := edE_zero.2 ⟨by rw [rdD_length]; exact hn, fun d hd => (rdD_ok xs n d hd).1⟩
set_option linter.unusedSimpArgs false in
set_option maxHeartbeats 4000000 in
set_option maxRecDepth 100000 in
theorem decodeDescs_any (p : Option Addr) (n c : Nat) (xs : List Nat) (k : Int) (w : World) (hx : In w p n c xs) :
    Calls Try.prog 39 #[.slice p n c, .int .i64 k] w fun e w' => ∃ p' n' c', e = .returned (.tuple #[.slice p' n' c', .int .i64 (ddE xs k)]) ∧ InD w' p' n' c' (ddL xs k) ∧ Below w.heap.size w w' := by
  have HL : Hid (xs.length = n) := hx.len
  by_cases hk : 0 ≤ k ∧ k ≤ 16
  · obtain ⟨m, rfl⟩ : ∃ m : Nat, k = (m : Int) := ⟨k.toNat, by omega⟩
    have hm : m ≤ 16 := by omega
    by_cases hn : n = 256
    · subst hn
      have hrd := fun w' => fun (h : Below w.heap.size w w') => readDescs_any p c xs m w' (hx.below h) hm
      replace hrd := hrd w (Below.refl _ _)
      have HRN : Hid (∀ d ∈ rdD xs m, d.rng) := fun d hd => (rdD_ok xs m d hd).2
      have HE0 : Hid (edE (rdD xs m) = 0) := rdE_zero xs hm
      cases hq : (edL (rdD xs m) == xs) with
      | true =>
        have hok : ddOk xs m = true := by unfold ddOk; rw [HL.out, hq]; rfl
        rw [(dd_ok hm hok).1, (dd_ok hm hok).2]
        have HQ : Hid (_ = true) := hq
        clear hok hq
        go_enter Try.func39, Try.ntmps39
        go_wp2_with (first
            | (go_at_call 43; refine (within_yes _ (by omega) (by omega)).mono ?_; rintro e w' ⟨rfl, hw'⟩; have hw2 := hw'.symm; subst hw2; clear hw')
            | (go_at_call 65; refine (hrd).mono ?_; rintro e w1 ⟨p1, c1, rfl, hin1, hb1⟩)
            | (go_at_call 37; refine (encodeDescs_any p1 _ c1 _ _ hin1 HRN.out).mono ?_; rintro e w2 ⟨p2, n2, c2, rfl, hin2, hb2⟩; rw [HE0.out]; have hi2 := hin1.below hb2; have hx2 := hx.below (bt hb1 hb2))
            | (go_at_call 36; refine (equal_any p2 p n2 c2 256 c _ xs _ hin2 hx2).mono ?_; rintro e w' ⟨rfl, hw'⟩; have hw2 := hw'.symm; subst hw2; clear hw'; rw [HQ.out]))
        go_ret2
        exact ⟨_, _, _, rfl, hi2, bt hb1 hb2⟩
      | false =>
        have hok : ddOk xs m = false := by unfold ddOk; rw [hq]; simp
        rw [(dd_no hm hok).1, (dd_no hm hok).2]
        have HQ : Hid (_ = false) := hq
        clear hok hq
        go_enter Try.func39, Try.ntmps39
        go_wp2_with (first
            | (go_at_call 43; refine (within_yes _ (by omega) (by omega)).mono ?_; rintro e w' ⟨rfl, hw'⟩; have hw2 := hw'.symm; subst hw2; clear hw')
            | (go_at_call 65; refine (hrd).mono ?_; rintro e w1 ⟨p1, c1, rfl, hin1, hb1⟩)
            | (go_at_call 37; refine (encodeDescs_any p1 _ c1 _ _ hin1 HRN.out).mono ?_; rintro e w2 ⟨p2, n2, c2, rfl, hin2, hb2⟩; rw [HE0.out]; have hi2 := hin1.below hb2; have hx2 := hx.below (bt hb1 hb2))
            | (go_at_call 36; refine (equal_any p2 p n2 c2 256 c _ xs _ hin2 hx2).mono ?_; rintro e w' ⟨rfl, hw'⟩; have hw2 := hw'.symm; subst hw2; clear hw'; rw [HQ.out]))
        go_ret2
        exact ⟨_, _, _, rfl, InD.empty _, bt hb1 hb2⟩
    · have hok : ddOk xs m = false := by unfold ddOk; rw [HL.out, show (n == 256) = false from by rw [beq_eq_false_iff_ne]; exact hn]; rfl
      rw [(dd_no hm hok).1, (dd_no hm hok).2]
      have hnz : ((n : Int) != 256) = true := by rw [bne_iff_ne]; omega
      clear hok hn
      go_enter Try.func39, Try.ntmps39
      go_wp2_with (go_at_call 43; refine (within_yes _ (by omega) (by omega)).mono ?_; rintro e w' ⟨rfl, hw'⟩; have hw2 := hw'.symm; subst hw2; clear hw')
      go_ret2
      exact ⟨_, _, _, rfl, InD.empty _, Below.refl _ _⟩
  · rw [(dd_far hk).1, (dd_far hk).2]
    go_enter Try.func39, Try.ntmps39
    go_wp2_with (go_at_call 43; refine (within_no _ hk).mono ?_; rintro e w' ⟨rfl, hw'⟩; have hw2 := hw'.symm; subst hw2; clear hw')
    go_ret2
    exact ⟨_, _, _, rfl, InD.empty _, Below.refl _ _⟩
end Go.Proofs.Ytbimcdaplnmjdaa
