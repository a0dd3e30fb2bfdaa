/-
  BitmapFinds returns true.
-/
import Derived.Test.YthpbeppfiinooaaBmBg
namespace Go.Proofs.Ythpbeppfiinooaa
open Go.RowKit
theorem longL_take (l : List Pie) (k : Nat) (h : k < l.length) : longL (l.take (k + 1)) = max (longL (l.take k)) l[k].l := by
  rw [List.take_succ_eq_append_getElem h, longL_snoc]
theorem longL_le (l : List Pie) : longL l ≤ 2048 := by
  have := lonR_rng l
  rw [(lonR_long l).1] at this
  exact this.2
theorem runs_take (f : Nat → Bool) (N : Nat) (h : N ≤ 2048) : (runsL f N).take 9999 = runsL f N := List.take_of_length_le (by have := runsL_len f N; omega)
set_option linter.unusedSimpArgs false in
set_option maxRecDepth 100000 in
set_option maxHeartbeats 4000000 in
theorem finds_walk (p : Option Addr) (m c : Nat) (xs : List Nat) (n goal wa : Int) (w : World) (h : In w p m c xs) :
    Calls Try.prog 7 #[.slice p m c, .int .i64 n, .int .i64 goal, .int .i64 wa] w fun e w' => e = .returned (.bool true) ∧ Below w.heap.size w w' := by
  cases hb : chkB xs n with
  | false =>
    go_enter Try.func7, Try.ntmps7
    go_wp2_with fail
    refine (begun_any w).mono ?_
    rintro e w1 ⟨rfl, hb1⟩
    have hc := check_any p m c xs n w1 (h.below hb1)
    rw [chkE_no hb] at hc
    clear hb
    go_wp2_with fail
    refine hc.mono ?_
    rintro e w2 ⟨rfl, j2, rfl⟩
    go_wp2_with fail
    refine (begun_any _).mono ?_
    rintro e w3 ⟨rfl, hb3⟩
    go_wp2
    go_ret
    exact ⟨rfl, bt (below_drewN hb1 _) hb3⟩
  | true =>
    by_cases hwa : wa < 1
    · go_enter Try.func7, Try.ntmps7
      go_wp2_with fail
      refine (begun_any w).mono ?_
      rintro e w1 ⟨rfl, hb1⟩
      have hc := check_any p m c xs n w1 (h.below hb1)
      rw [chkE_ok hb] at hc
      clear hb
      go_wp2_with fail
      refine hc.mono ?_
      rintro e w2 ⟨rfl, j2, rfl⟩
      go_wp2_with fail
      refine (begun_any _).mono ?_
      rintro e w3 ⟨rfl, hb3⟩
      go_wp2
      go_ret
      exact ⟨rfl, bt (below_drewN hb1 _) hb3⟩
    · have hq := (chkB_iff xs n).1 hb
      have hn : n = ((nOf xs n : Nat) : Int) := by unfold nOf; rw [if_pos hb]; omega
      have hle := nOf_le xs n
      obtain ⟨A, K, hR, hK, hz, hAK⟩ := runR_finds (g := goalN (nOf xs n) goal) (runsL_runs (bitL xs) (nOf xs n) hle) hwa
      rw [← runR_eq (runsL_runs (bitL xs) (nOf xs n) hle).sort] at hR
      have hse : setE xs n (A : Int) (K : Int) false = 0 := by
        refine setE_ok hb ⟨by omega, by omega, ?_⟩ ((allB_iff _ _ _).2 fun j hj => ?_)
        · rw [hn]; omega
        · rw [Int.toNat_natCast] at hj ⊢
          rw [hz _ (by omega) (by omega)]; rfl
      have HKB : Hid (K ≤ 2048 ∧ A ≤ 2048) := ⟨by omega, by omega⟩
      have hrt := runs_take (bitL xs) (nOf xs n) hle
      have hll := runsL_len (bitL xs) (nOf xs n)
      have hKi : (K : Int) ≤ wa := by omega
      have HK : Hid ((K : Int) = min (longL (runsL (bitL xs) (nOf xs n)) : Int) wa) := hK
      obtain ⟨L, hL⟩ : ∃ L, runsL (bitL xs) (nOf xs n) = L := ⟨_, rfl⟩
      rw [hL] at hrt hll HK
      have HLL : Hid (L.length ≤ 2049) := by show _ ≤ _; omega
      have hLi : (L.length : Int) ≤ 2049 := by omega
      have HL : Hid ((runsL (bitL xs) (nOf xs n)).take 9999 = L) := by show _ = _; rw [hL]; exact hrt
      clear hz hAK hq hK hrt hll hle hL hn
      go_enter Try.func7, Try.ntmps7
      go_wp2_with fail
      refine (begun_any w).mono ?_
      rintro e w1 ⟨rfl, hb1⟩
      have hc := check_any p m c xs n w1 (h.below hb1)
      rw [chkE_ok hb] at hc
      clear hb
      go_wp2_with fail
      refine hc.mono ?_
      rintro e w2 ⟨rfl, j2, rfl⟩
      have k2 : Below w.heap.size w (w1.drewN j2) := below_drewN hb1 _
      have hru := run_any p m c xs n goal wa _ (h.below k2)
      rw [hR] at hru
      clear hR
      go_wp2_with fail
      refine hru.mono ?_
      rintro e w3 ⟨rfl, hb3⟩
      have k3 := bt k2 hb3
      have hst := set_any p m c xs n (A : Int) (K : Int) w3 (h.below k3) (by have := HKB.out; omega) (by have := HKB.out; omega)
      rw [hse] at hst
      have hK0 : ¬ (K : Int) < 0 := by omega
      have hKw : ¬ (K : Int) > wa := by omega
      clear hse hKi
      go_wp2_with fail
      refine hst.mono ?_
      rintro e w4 ⟨p4, n4, c4, ys4, rfl, -, -, hb4⟩
      have k4 := bt k3 hb4
      clear hst hru hc
      go_wp2_with fail
      refine (Runs_any p m c xs n w4 (h.below k4)).mono ?_
      rintro e w5 ⟨Bs, Bn, p5, m5, c5, rfl, hR5, hb5⟩
      have k5 := bt k4 hb5
      have htl := told_any (nOf xs n) Bs Bn p5 m5 c5 xs 9999 (by decide) w5 hR5
      rw [HL.out] at htl
      go_wp2_with fail
      refine htl.mono ?_
      rintro e w6 ⟨v, rfl, ho, hb6⟩
      have k6 := bt k5 hb6
      obtain ⟨pv, cv, rfl⟩ := owns_slice ho
      clear htl
      go_wp2
      go_loopw [13, 59] (fun s i wr => ∃ k : Nat, k ≤ L.length ∧ i = .int .i64 k ∧ s = .int .i64 (longL (L.take k) : Nat) ∧ Below w6.heap.size w6 wr) (fun _ i _ => L.length - (intOf i).toNat)
      case atStart => exact ⟨0, Nat.zero_le _, rfl, rfl, Below.refl _ _⟩
      case round =>
        obtain ⟨k, hk, rfl, rfl, hbw⟩ := hrel
        by_cases hlt : k < L.length
        · obtain ⟨g, cap, he, hgB, hat⟩ := row_at ho (by omega)
          have hgl : g < w6.heap.size := by cases he; exact block_lt_of_cell (hat k hlt).1
          cases he
          obtain ⟨c1, c2⟩ := hat k hlt
          replace c1 := (hbw.cell (p := ⟨g, k * 2, none⟩) hgl).trans c1
          replace c2 := (hbw.cell (p := ⟨g, k * 2 + 1, none⟩) hgl).trans c2
          have hlt2 := longL_take L k hlt
          obtain ⟨M, HM0, -, -, hmax⟩ := maxRun (longL (L.take k)) L[k].l
          rw [← HM0] at hlt2
          have HT : Hid (longL (L.take (k + 1)) = M) := hlt2
          generalize longL (L.take k) = S0 at *
          obtain ⟨xa, hxa⟩ : ∃ xa, xa = L[k].a := ⟨_, rfl⟩
          obtain ⟨xl, hxl⟩ : ∃ xl, xl = L[k].l := ⟨_, rfl⟩
          rw [← hxa] at c1
          rw [← hxl] at c2 hmax
          clear hat hxa hxl HM0 hlt2
          go_wp2
          go_roundw
          case rel => exact ⟨k + 1, by omega, by go_num, by rw [HT.out], bt hbw (below_alloc _ _)⟩
          case measure => simp [intOf]; omega
        · obtain rfl : k = L.length := by omega
          rw [List.take_length] at *
          generalize longL L = S0 at *
          go_wp2
          go_ret
          refine ⟨ret_bool ?_, bt k6 hbw⟩
          have := HK.out
          simp
          omega
end Go.Proofs.Ythpbeppfiinooaa
