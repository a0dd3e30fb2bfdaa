/-
  What Set and Clear answer, the program's and the reference's.
-/
import Derived.Test.YthpbeppfiinooaaBmN
import Derived.Lib.LazyBuf
namespace Go.Proofs.Ythpbeppfiinooaa
open Go.RowKit
/-- The error of bits made 1 (was false) or 0 (was true). -/
def setE (xs : List Nat) (n a m : Int) (was : Bool) : Int :=
  if chkB xs n = true then (if 0 ≤ a ∧ 0 ≤ m ∧ a + m ≤ n then (if allB (fun i => bitL xs i == was) a.toNat m.toNat = true then 0 else 122) else 121) else 120
/-- The k bits from a on turned. -/
def flF (f : Nat → Bool) (a k i : Nat) : Bool := if a ≤ i ∧ i < a + k then !f i else f i
theorem flF_next (f : Nat → Bool) (a k i : Nat) : (if i = a + k then !flF f a k (a + k) else flF f a k i) = flF f a (k + 1) i := by
  unfold flF
  split
  · rename_i h; subst h
    rw [if_neg (by omega), if_pos (by omega)]
  · rename_i h
    by_cases h1 : a ≤ i ∧ i < a + k
    · rw [if_pos h1, if_pos (by omega)]
    · rw [if_neg h1, if_neg (by omega)]
theorem flF_zero (f : Nat → Bool) (a i : Nat) : f i = flF f a 0 i := by unfold flF; rw [if_neg (by omega)]
theorem setE_no {xs : List Nat} {n : Int} (a m : Int) (was : Bool) (h : chkB xs n = false) : setE xs n a m was = 120 := by unfold setE; rw [if_neg (by simp [h])]
theorem setE_arg {xs : List Nat} {n a m : Int} (was : Bool) (h : chkB xs n = true) (h2 : ¬ (0 ≤ a ∧ 0 ≤ m ∧ a + m ≤ n)) : setE xs n a m was = 121 := by unfold setE; rw [if_pos h, if_neg h2]
theorem setE_ok {xs : List Nat} {n a m : Int} {was : Bool} (h : chkB xs n = true) (h2 : 0 ≤ a ∧ 0 ≤ m ∧ a + m ≤ n) (h3 : allB (fun i => bitL xs i == was) a.toNat m.toNat = true) : setE xs n a m was = 0 := by unfold setE; rw [if_pos h, if_pos h2, if_pos h3]
theorem setE_set {xs : List Nat} {n a m : Int} {was : Bool} (h : chkB xs n = true) (h2 : 0 ≤ a ∧ 0 ≤ m ∧ a + m ≤ n) (h3 : ¬ allB (fun i => bitL xs i == was) a.toNat m.toNat = true) : setE xs n a m was = 122 := by unfold setE; rw [if_pos h, if_pos h2, if_neg h3]
theorem owns_drewN {w : World} {B : Nat} {e : TypeId} {s : Nat} {v : Value} {n : Nat} {xs : List Value} (h : w.ownsRow B e s v n xs) (j : Nat) : (w.drewN j).ownsRow B e s v n xs := owns_below h (below_drewN (Below.refl _ _) _)
theorem turned_any (p : Option Addr) (l c : Nat) (xs : List Nat) (n a m : Int) (was : Bool) (w : World) (hx : In w p l c xs) (ha : a ≤ 9223372036854775807) (hm : m ≤ 9223372036854775807) :
    Calls Try.prog 37 #[.slice p l c, .int .i64 n, .int .i64 a, .int .i64 m, .bool was] w (RetB w (setE xs n a m was) (flF (bitL xs) a.toNat m.toNat)) := by
  have hc := check_any p l c xs n w hx
  cases hb : chkB xs n with
  | false =>
    rw [setE_no a m was hb]
    rw [chkE_no hb] at hc
    clear hb
    go_enter Try.func37, Try.ntmps37
    go_wp2_with (go_at_call 12; refine hc.mono ?_; rintro e w1 ⟨rfl, j, rfl⟩)
    go_ret2
    exact RetB.err _ (by decide) (below_drewN (Below.refl _ _) _)
  | true =>
    rw [chkE_ok hb] at hc
    have hn := (chkB_iff xs n).1 hb
    by_cases h2 : 0 ≤ a ∧ 0 ≤ m ∧ a + m ≤ n
    · obtain ⟨A, rfl⟩ : ∃ k : Nat, a = (k : Int) := ⟨a.toNat, by omega⟩
      obtain ⟨M, rfl⟩ : ∃ k : Nat, m = (k : Int) := ⟨m.toNat, by omega⟩
      obtain ⟨n1, n2, n3, -⟩ := hn
      have hl : l = 256 := by rw [← hx.len]; exact n3
      subst hl
      have hw1 : IntKind.i64.wrap (n - (M : Int)) = n - (M : Int) := by rw [IntKind.wrap_i64]; omega
      have hg : ¬ (A : Int) > n - (M : Int) := by omega
      have HAM : Hid (A + M ≤ 2048) := by show _ ≤ _; omega
      have hA : (A : Int) + (M : Int) ≤ 2048 := by omega
      have h0a : ¬ (A : Int) < 0 := by omega
      have h0m : ¬ (M : Int) < 0 := by omega
      have HB : Hid (chkB xs n = true) := hb
      have H2 : Hid (0 ≤ (A : Int) ∧ 0 ≤ (M : Int) ∧ (A : Int) + (M : Int) ≤ n) := h2
      obtain ⟨er, her⟩ : ∃ er, setE xs n (A : Int) (M : Int) was = er := ⟨_, rfl⟩
      rw [her]
      have HE : Hid (setE xs n (A : Int) (M : Int) was = er) := her
      have hon := fun j => own_any p c xs (w.drewN j) (hx.drewN j)
      simp only [show ∀ j, (w.drewN j).heap.size = w.heap.size from fun _ => rfl] at hon
      rw [Int.toNat_natCast, Int.toNat_natCast]
      clear hb h2 n1 n2 n3 ha hm her
      go_enter Try.func37, Try.ntmps37
      go_wp2_with (first | (go_at_call 12; refine hc.mono ?_; rintro e w1 ⟨rfl, j, rfl⟩) | (go_at_call 39; refine (hon _).mono ?_; rintro e w2 ⟨rfl, ho2, hb2⟩))
      have hb0 : Below w.heap.size w w2 := (below_drewN (Below.refl _ _) _).trans hb2
      clear hc hon hb2 h0a h0m hg hw1
      go_loopw [37] (fun i wr => ∃ k : Nat, k ≤ M ∧ i = .int .i64 k ∧ (∃ ys, wr.ownsRow w.heap.size 5 1 (.slice (some ⟨w.heap.size, 0, none⟩) 256 256) 256 (vals ys) ∧ Bm ys (flF (bitL xs) A k)) ∧ Below w.heap.size w wr ∧ Hid (∀ j, j < k → (bitL xs (A + j) == was) = true)) (fun i _ => M - (intOf i).toNat)
      case atStart => exact ⟨0, Nat.zero_le _, rfl, ⟨_, ho2, (Bm.self hx.len hx.byte).of fun i _ => flF_zero _ _ _⟩, hb0, fun j hj => absurd hj (Nat.not_lt_zero _)⟩
      case round =>
        obtain ⟨k, hk, rfl, ⟨ys, ho, hm⟩, hb, HA⟩ := hrel
        clear ho2 hb0
        by_cases hlt : k < M
        · have hak : A + k < 2048 := by have := HAM.out; omega
          have hs := isSet_any p 256 c xs (A + k) wr (hx.below hb) (by omega)
          have ht := fun j => turn_any w.heap.size w.heap.size 256 ys (A + k) (wr.drewN j) (Nat.le_refl _) (owns_drewN ho j) hm.byte (by decide) (by omega)
          have hm2 := (hm.flip hak).of fun i _ => flF_next (bitL xs) A k i
          clear hak
          by_cases he : bitL xs (A + k) = was
          · rw [he] at hs
            have HK : Hid (bitL xs (A + k) = was) := he
            clear he
            go_wp2_with (first | (go_at_call 33; refine hs.mono ?_; rintro e w3 ⟨rfl, j3, rfl⟩) | (go_at_call 32; refine (ht _).mono ?_; rintro e w4 ⟨rfl, ho4, hb4⟩))
            go_roundw
            case rel =>
              refine ⟨k + 1, by omega, by go_num, ⟨_, ho4, hm2⟩, (below_drewN hb _).trans hb4, fun j hj => ?_⟩
              rcases Nat.lt_succ_iff_lt_or_eq.1 hj with h' | h'
              · exact HA.out j h'
              · rw [h', HK.out]; simp
            case measure => simp [intOf]; omega
          · have he' : bitL xs (A + k) = !was := by cases was <;> simp_all
            rw [he'] at hs
            have HK : Hid (¬ bitL xs (A + k) = was) := he
            clear he he'
            have hd : ((!was) != was) = true := by cases was <;> rfl
            go_wp2_with (go_at_call 33; refine hs.mono ?_; rintro e w3 ⟨rfl, j3, rfl⟩)
            go_ret2
            have : er = 122 := by
              rw [← HE.out]
              refine setE_set HB.out H2.out fun h => HK.out ?_
              have := (allB_iff _ _ _).1 h k (by rw [Int.toNat_natCast]; exact hlt)
              rw [Int.toNat_natCast] at this
              simpa using this
            rw [this]
            exact RetB.err _ (by decide) (below_drewN hb _)
        · obtain rfl : k = M := by omega
          go_wp2
          go_ret2
          have : er = 0 := by
            rw [← HE.out]
            refine setE_ok HB.out H2.out ((allB_iff _ _ _).2 fun j hj => ?_)
            rw [Int.toNat_natCast] at hj ⊢
            exact HA.out j hj
          rw [this]
          exact RetB.ok ho hm hb
    · rw [setE_arg was hb h2]
      obtain ⟨n1, n2, -, -⟩ := hn
      clear hb
      by_cases h0 : a < 0
      · go_enter Try.func37, Try.ntmps37
        go_wp2_with (go_at_call 12; refine hc.mono ?_; rintro e w1 ⟨rfl, j, rfl⟩)
        go_ret2
        exact RetB.err _ (by decide) (below_drewN (Below.refl _ _) _)
      · by_cases h1 : m < 0
        · go_enter Try.func37, Try.ntmps37
          go_wp2_with (go_at_call 12; refine hc.mono ?_; rintro e w1 ⟨rfl, j, rfl⟩)
          go_ret2
          exact RetB.err _ (by decide) (below_drewN (Below.refl _ _) _)
        · have hw1 : IntKind.i64.wrap (n - m) = n - m := by rw [IntKind.wrap_i64]; omega
          have hg : a > n - m := by omega
          go_enter Try.func37, Try.ntmps37
          go_wp2_with (go_at_call 12; refine hc.mono ?_; rintro e w1 ⟨rfl, j, rfl⟩)
          go_ret2
          exact RetB.err _ (by decide) (below_drewN (Below.refl _ _) _)
end Go.Proofs.Ythpbeppfiinooaa
