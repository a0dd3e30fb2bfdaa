/-
  What mapjnl's small functions and Check answer.
-/
import Derived.Test.YtpikaagdiafieaaMjG
namespace Go.Proofs.Ytpikaagdiafieaa
open Go.RowKit
theorem within_any (a b c : Int) (w : World) : Calls Try.prog 44 #[.int .i64 a, .int .i64 b, .int .i64 c] w fun e w' => e = .returned (.bool (decide (b ≤ a) && decide (a ≤ c))) ∧ w' = w := by
  by_cases h1 : b ≤ a
  · by_cases h2 : a ≤ c
    · go_enter Try.func44, Try.ntmps44
      go_wp2
      go_ret
      exact ⟨ret_bool (by simp [h1, h2]), rfl⟩
    · go_enter Try.func44, Try.ntmps44
      go_wp2
      go_ret
      exact ⟨ret_bool (by simp [h2]), rfl⟩
  · go_enter Try.func44, Try.ntmps44
    go_wp2
    go_ret
    exact ⟨ret_bool (by rw [decide_eq_false (Int.not_le.2 h1)]; rfl), rfl⟩
theorem within_yes {a b c : Int} (w : World) (h1 : b ≤ a) (h2 : a ≤ c) : Calls Try.prog 44 #[.int .i64 a, .int .i64 b, .int .i64 c] w fun e w' => e = .returned (.bool true) ∧ w' = w := by
  have := within_any a b c w
  rwa [show (decide (b ≤ a) && decide (a ≤ c)) = true from by simp [h1, h2]] at this
theorem within_no {a b c : Int} (w : World) (h : ¬ (b ≤ a ∧ a ≤ c)) : Calls Try.prog 44 #[.int .i64 a, .int .i64 b, .int .i64 c] w fun e w' => e = .returned (.bool false) ∧ w' = w := by
  have := within_any a b c w
  rwa [show (decide (b ≤ a) && decide (a ≤ c)) = false from by simp only [Bool.and_eq_false_iff, decide_eq_false_iff_not]; omega] at this
theorem withinL_any (a b c : Int) (w : World) : Calls Try.prog 53 #[.int .i64 a, .int .i64 b, .int .i64 c] w fun e w' => e = .returned (.bool (decide (b ≤ a) && decide (a ≤ c))) ∧ w' = w := by
  by_cases h1 : b ≤ a
  · by_cases h2 : a ≤ c
    · go_enter Try.func53, Try.ntmps53
      go_wp2
      go_ret
      exact ⟨ret_bool (by simp [h1, h2]), rfl⟩
    · go_enter Try.func53, Try.ntmps53
      go_wp2
      go_ret
      exact ⟨ret_bool (by simp [h2]), rfl⟩
  · go_enter Try.func53, Try.ntmps53
    go_wp2
    go_ret
    exact ⟨ret_bool (by rw [decide_eq_false (Int.not_le.2 h1)]; rfl), rfl⟩
theorem withinL_yes {a b c : Int} (w : World) (h1 : b ≤ a) (h2 : a ≤ c) : Calls Try.prog 53 #[.int .i64 a, .int .i64 b, .int .i64 c] w fun e w' => e = .returned (.bool true) ∧ w' = w := by
  have := withinL_any a b c w
  rwa [show (decide (b ≤ a) && decide (a ≤ c)) = true from by simp [h1, h2]] at this
theorem withinL_no {a b c : Int} (w : World) (h : ¬ (b ≤ a ∧ a ≤ c)) : Calls Try.prog 53 #[.int .i64 a, .int .i64 b, .int .i64 c] w fun e w' => e = .returned (.bool false) ∧ w' = w := by
  have := withinL_any a b c w
  rwa [show (decide (b ≤ a) && decide (a ≤ c)) = false from by simp only [Bool.and_eq_false_iff, decide_eq_false_iff_not]; omega] at this
theorem wear1_any (x : Int) (w : World) : Calls Try.prog 76 #[.int .i64 x] w fun e w' => e = .returned (.bool (!okWear x)) ∧ w' = w := by
  go_enter Try.func76, Try.ntmps76
  go_wp2_with (go_at_call 53; refine (withinL_any x 0 16777215 _).mono ?_; rintro e w' ⟨rfl, hw'⟩; have hw2 := hw'.symm; subst hw2; clear hw')
  go_ret
  exact ⟨ret_bool (by unfold okWear; rw [Bool.not_and]), rfl⟩
/-- The place of the first wear that may not be. -/
def badAt (W : List Int) : Int := if W.all okWear then -1 else ((W.findIdx fun x => !okWear x : Nat) : Int)
theorem badAt_yes {W : List Int} (h : W.all okWear = true) : badAt W = -1 := by unfold badAt; rw [if_pos h]
theorem badAt_neg {W : List Int} : decide (badAt W ≥ 0) = !W.all okWear := by
  unfold badAt
  cases W.all okWear with
  | true => rfl
  | false => simp
theorem indexL_any (q : Option Addr) (m d : Nat) (W : List Int) (w : World) (hW : InI w q m d W) :
    Calls Try.prog 89 #[.slice q m d, .func (.func 76) #[] #[]] w fun e w' => (∃ k : Int, e = .returned (.int .i64 k) ∧ decide (0 ≤ k) = !W.all okWear) ∧ w' = w := by
  have hroom := hW.room
  have HX : Hid (W.length = m) := hW.len
  go_enter Try.func89, Try.ntmps89
  go_wp2
  go_loop [8] (fun i => ∃ k : Nat, k ≤ m ∧ i = .int .i64 k ∧ ∀ j, j < k → okWear (eI W j) = true) (fun i => m - (intOf i).toNat)
  case atStart => exact ⟨0, Nat.zero_le _, rfl, fun j h => by omega⟩
  case round =>
    obtain ⟨k, hk, rfl, hall⟩ := hrel
    have HA : Hid (∀ j, j < k → okWear (eI W j) = true) := hall
    clear hall
    by_cases hlt : k < m
    · obtain ⟨b, o, rfl, hb', hc⟩ := hW.at' (by omega)
      have hck := hc k hlt
      clear hc
      cases hok : okWear (eI W k) with
      | true =>
        have HO : Hid (okWear (eI W k) = true) := hok
        go_wp2_with (go_at_call 76; refine (wear1_any (eI W k) _).mono ?_; rintro e w' ⟨rfl, hw'⟩; have hw2 := hw'.symm; subst hw2; clear hw'; rw [hok])
        go_round
        case rel =>
          refine ⟨k + 1, by omega, by go_num, fun j hj => ?_⟩
          rcases Nat.lt_succ_iff_lt_or_eq.1 hj with h | h
          · exact HA.out j h
          · rw [h]; exact HO.out
        case measure => simp [intOf]; omega
      | false =>
        have E1 : Hid (W.all okWear = false) := all_of_not (by rw [HX.out]; exact hlt) hok
        go_wp2_with (go_at_call 76; refine (wear1_any (eI W k) _).mono ?_; rintro e w' ⟨rfl, hw'⟩; have hw2 := hw'.symm; subst hw2; clear hw'; rw [hok])
        go_ret
        exact ⟨⟨k, rfl, by rw [E1.out]; simp⟩, rfl⟩
    · have E1 : Hid (W.all okWear = true) := eI_all.2 fun j hj => HA.out j (by have := HX.out; omega)
      go_wp2
      go_ret
      exact ⟨⟨-1, rfl, by rw [E1.out]; rfl⟩, rfl⟩
theorem containsL_any (q : Option Addr) (m d : Nat) (W : List Int) (w : World) (hW : InI w q m d W) :
    Calls Try.prog 75 #[.slice q m d, .func (.func 76) #[] #[]] w fun e w' => e = .returned (.bool (!W.all okWear)) ∧ w' = w := by
  go_enter Try.func75, Try.ntmps75
  go_wp2_with (go_at_call 89; refine (indexL_any q m d W _ hW).mono ?_; rintro e w' ⟨⟨k, rfl, hk⟩, hw'⟩; have hw2 := hw'.symm; subst hw2; clear hw')
  go_ret
  exact ⟨ret_bool rfl, rfl⟩
theorem wearsMayBe_any (q : Option Addr) (m d : Nat) (W : List Int) (w : World) (hW : InI w q m d W) :
    Calls Try.prog 52 #[.slice q m d] w fun e w' => e = .returned (.bool (W.all okWear)) ∧ w' = w := by
  go_enter Try.func52, Try.ntmps52
  go_wp2_with (go_at_call 75; refine (containsL_any q m d W _ hW).mono ?_; rintro e w' ⟨rfl, hw'⟩; have hw2 := hw'.symm; subst hw2; clear hw')
  go_ret
  exact ⟨ret_bool (by simp), rfl⟩
/-- A state in a world: where its rows lie. -/
structure SV where
  p : Option Addr
  n : Nat
  c : Nat
  q : Option Addr
  m : Nat
  d : Nat
def SV.cells (V : SV) (s : MS) : List Value := [.slice V.p V.n V.c, .slice V.q V.m V.d, .int .i64 s.seq]
abbrev SV.val (V : SV) (s : MS) : Value := .agg #[.slice V.p V.n V.c, .slice V.q V.m V.d, .int .i64 s.seq]
structure InS (w : World) (V : SV) (s : MS) : Prop where
  b : InB w V.p V.n V.c s.bad
  v : InI w V.q V.m V.d s.wear
theorem InS.below {w w' : World} {V : SV} {s : MS} (h : InS w V s) (hb : Below w.heap.size w w') : InS w' V s := ⟨h.b.below hb, h.v.below hb⟩
theorem check_any (V : SV) (s : MS) (w : World) (hs : InS w V s) :
    Calls Try.prog 15 #[V.val s] w fun e w' => e = .returned (.int .i64 (chkE s)) ∧ Below w.heap.size w w' := by
  obtain ⟨p, n, c, q, m, d⟩ := V
  obtain ⟨hB, hW⟩ := hs
  dsimp only [SV.val] at *
  have HB : Hid (s.bad.length = n) := hB.len
  have HW : Hid (s.wear.length = m) := hW.len
  have hbl := below_alloc w (.cells #[.slice p n c, .slice q m d, .int .i64 s.seq] 25)
  have hWb := hW.below hbl
  by_cases hn : 16 ≤ (n : Int) ∧ (n : Int) ≤ 256
  · by_cases hnm : m = n
    · have hne : ((m : Int) != (n : Int)) = false := by subst hnm; simp
      cases hww : s.wear.all okWear with
      | true =>
        by_cases hq : 0 ≤ s.seq ∧ s.seq ≤ 1152921504606846976
        · have E : Hid (chkE s = 0) := chkE_ok (okMS_iff.2 ⟨by rw [HB.out]; omega, by rw [HB.out, HW.out]; exact hnm, hww, hq.1, hq.2⟩)
          clear hnm
          go_enter Try.func15, Try.ntmps15
          go_wp2_with (first
            | (go_at_call 44; refine (within_yes _ hn.1 hn.2).mono ?_; rintro e w' ⟨rfl, hw'⟩; have hw2 := hw'.symm; subst hw2; clear hw')
            | (go_at_call 52; refine (wearsMayBe_any _ _ _ s.wear _ hWb).mono ?_; rintro e w' ⟨rfl, hw'⟩; have hw2 := hw'.symm; subst hw2; clear hw'; rw [hww])
            | (go_at_call 53; refine (withinL_yes _ hq.1 hq.2).mono ?_; rintro e w' ⟨rfl, hw'⟩; have hw2 := hw'.symm; subst hw2; clear hw'))
          go_ret
          rw [E.out]
          exact ⟨rfl, hbl⟩
        · have E : Hid (chkE s = 60) := chkE_no (okMS_not (fun h => hq h.2.2.2))
          clear hnm
          go_enter Try.func15, Try.ntmps15
          go_wp2_with (first
            | (go_at_call 44; refine (within_yes _ hn.1 hn.2).mono ?_; rintro e w' ⟨rfl, hw'⟩; have hw2 := hw'.symm; subst hw2; clear hw')
            | (go_at_call 52; refine (wearsMayBe_any _ _ _ s.wear _ hWb).mono ?_; rintro e w' ⟨rfl, hw'⟩; have hw2 := hw'.symm; subst hw2; clear hw'; rw [hww])
            | (go_at_call 53; refine (withinL_no _ hq).mono ?_; rintro e w' ⟨rfl, hw'⟩; have hw2 := hw'.symm; subst hw2; clear hw'))
          go_ret
          rw [E.out]
          exact ⟨rfl, hbl⟩
      | false =>
        have E : Hid (chkE s = 60) := chkE_no (okMS_not (fun h => by rw [h.2.2.1] at hww; cases hww))
        clear hnm
        go_enter Try.func15, Try.ntmps15
        go_wp2_with (first
          | (go_at_call 44; refine (within_yes _ hn.1 hn.2).mono ?_; rintro e w' ⟨rfl, hw'⟩; have hw2 := hw'.symm; subst hw2; clear hw')
          | (go_at_call 52; refine (wearsMayBe_any _ _ _ s.wear _ hWb).mono ?_; rintro e w' ⟨rfl, hw'⟩; have hw2 := hw'.symm; subst hw2; clear hw'; rw [hww]))
        go_ret
        rw [E.out]
        exact ⟨rfl, hbl⟩
    · have hne : ((m : Int) != (n : Int)) = true := by rw [bne_iff_ne]; omega
      have E : Hid (chkE s = 60) := chkE_no (okMS_not (fun h => hnm (by rw [← HB.out, ← HW.out]; exact h.2.1)))
      clear hnm
      go_enter Try.func15, Try.ntmps15
      go_wp2_with (go_at_call 44; refine (within_yes _ hn.1 hn.2).mono ?_; rintro e w' ⟨rfl, hw'⟩; have hw2 := hw'.symm; subst hw2; clear hw')
      go_ret
      rw [E.out]
      exact ⟨rfl, hbl⟩
  · have E : Hid (chkE s = 60) := chkE_no (okMS_not (fun h => hn (by have := h.1; rw [HB.out] at this; omega)))
    go_enter Try.func15, Try.ntmps15
    go_wp2_with (go_at_call 44; refine (within_no _ hn).mono ?_; rintro e w' ⟨rfl, hw'⟩; have hw2 := hw'.symm; subst hw2; clear hw')
    go_ret
    rw [E.out]
    exact ⟨rfl, hbl⟩
end Go.Proofs.Ytpikaagdiafieaa
