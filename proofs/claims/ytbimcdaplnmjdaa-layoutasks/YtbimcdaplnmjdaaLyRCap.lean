/-
  What the reference's Capacity answers.
-/
import Derived.Test.YtbimcdaplnmjdaaLyCapP
import Derived.Test.YtbimcdaplnmjdaaLyRKind
namespace Go.Proofs.Ytbimcdaplnmjdaa
open Go.RowKit
theorem kindN_in {b j x : Int} (h : okS b j = true) (h1 : 0 ≤ x) (h2 : x < b) : kindN b j x = knd b j x := by unfold kindN; rw [if_pos h, if_pos ⟨h1, h2⟩]
theorem cntK_rng (b j k : Int) (n : Nat) : 0 ≤ cntK b j k n ∧ cntK b j k n ≤ n := by
  induction n with
  | zero => simp [cntK]
  | succ n ih => unfold cntK; split <;> omega
set_option linter.unusedSimpArgs false in
set_option maxHeartbeats 4000000 in
set_option maxRecDepth 100000 in
theorem rcap_any (b j : Int) (w : World) : Calls Try.prog 31 #[.agg #[.int .i64 b, .int .i64 j]] w fun e w' => e = .returned (.int .i64 (capN b j)) ∧ Below w.heap.size w w' := by
  have hb0 := below_alloc w (.cells #[.int .i64 b, .int .i64 j] 24)
  have b0 := Blk.new' w 24 #[.int .i64 b, .int .i64 j]
  have hck := fun w => rchk_any b j w
  cases hok : okS b j with
  | false =>
    rw [chk_no hok] at hck
    rw [show capN b j = 0 from by unfold capN; rw [hok]; rfl]
    clear hok
    go_enter Try.func31, Try.ntmps31
    go_wp2
    go_loopw [3, 4] (fun n i wr => n = .int .i64 0 ∧ i = .int .i64 0 ∧ Below w.heap.size w wr ∧ Blk wr w.heap.size 24 [.int .i64 b, .int .i64 j]) (fun _ _ _ => 0)
    case atStart => exact ⟨rfl, rfl, hb0, b0⟩
    case round =>
      obtain ⟨rfl, rfl, hbel, hbk⟩ := hrel
      have c0 := hbk.cell' (i := 0) rfl
      have c1 := hbk.cell' (i := 1) rfl
      clear b0 hb0
      by_cases hp : 0 < b
      · go_wp2_with (go_at_call 15; refine (hck _).mono ?_; rintro e w1 ⟨rfl, hb1⟩)
        go_ret
        exact ⟨rfl, bt hbel hb1⟩
      · go_wp2
        go_ret
        exact ⟨rfl, hbel⟩
  | true =>
    rw [chk_ok hok] at hck
    obtain ⟨h1, h2, h3, h4, -⟩ := okS_iff.1 hok
    have HC : Hid (capN b j = cntK b j 7 b.toNat) := cap_cnt hok
    have HB : Hid (b = (b.toNat : Int)) := by show _ = _; omega
    have HN : Hid (∀ n : Nat, cntK b j 7 (n + 1) = cntK b j 7 n + (if knd b j (n : Int) = 7 then 1 else 0)) := fun _ => rfl
    have HK : Hid (∀ x : Int, 0 ≤ x → x < b → kindN b j x = knd b j x) := fun x a c => kindN_in hok a c
    have hki := fun x w => rkind_any b j x w
    have hrg := fun n => cntK_rng b j 7 n
    clear hok
    go_enter Try.func31, Try.ntmps31
    go_wp2
    go_loopw [3, 4] (fun n i wr => ∃ k : Nat, (k : Int) ≤ b ∧ n = .int .i64 (cntK b j 7 k) ∧ i = .int .i64 k ∧ Below w.heap.size w wr ∧ Blk wr w.heap.size 24 [.int .i64 b, .int .i64 j]) (fun _ i _ => b.toNat - (intOf i).toNat)
    case atStart => exact ⟨0, by omega, rfl, rfl, hb0, b0⟩
    case round =>
      obtain ⟨k, hk, rfl, rfl, hbel, hbk⟩ := hrel
      have c0 := hbk.cell' (i := 0) rfl
      have c1 := hbk.cell' (i := 1) rfl
      have hr := hrg k
      clear hrg b0 hb0
      by_cases hlt : (k : Int) < b
      · have hkk := hki (k : Int)
        rw [HK.out (k : Int) (by omega) hlt] at hkk
        have HN' := HN.out k
        have HN2 : Hid (cntK b j 7 (k + 1) = cntK b j 7 k + (if knd b j (k : Int) = 7 then 1 else 0)) := HN'
        clear HN' hki
        by_cases h7 : knd b j (k : Int) = 7
        · rw [if_pos h7] at HN2
          rw [h7] at hkk
          clear h7
          generalize cntK b j 7 k = m at *
          have hr1 := hr.1
          have hr2 := hr.2
          clear hr
          go_wp2_with (first
            | (go_at_call 15; refine (hck _).mono ?_; rintro e w1 ⟨rfl, hb1⟩; have k1 := hbk.kept hb1; have d0 := k1.cell' (i := 0) rfl; have d1 := k1.cell' (i := 1) rfl)
            | (go_at_call 29; refine (hkk _).mono ?_; rintro e w2 ⟨rfl, hb2⟩; have k2 := k1.kept hb2))
          go_roundw
          case rel => exact ⟨k + 1, by omega, val_int (by rw [HN2.out]), by go_num, bt (bt hbel hb1) hb2, k2⟩
          case measure => simp [intOf]; omega
        · rw [if_neg h7] at HN2
          have hb7 : (knd b j (k : Int) == 7) = false := by rw [beq_eq_false_iff_ne]; exact h7
          generalize knd b j (k : Int) = kk at *
          clear h7
          generalize cntK b j 7 k = m at *
          go_wp2_with (first
            | (go_at_call 15; refine (hck _).mono ?_; rintro e w1 ⟨rfl, hb1⟩; have k1 := hbk.kept hb1; have d0 := k1.cell' (i := 0) rfl; have d1 := k1.cell' (i := 1) rfl)
            | (go_at_call 29; refine (hkk _).mono ?_; rintro e w2 ⟨rfl, hb2⟩; have k2 := k1.kept hb2))
          go_roundw
          case rel => exact ⟨k + 1, by omega, val_int (by rw [HN2.out]; omega), by go_num, bt (bt hbel hb1) hb2, k2⟩
          case measure => simp [intOf]; omega
      · have hkb : k = b.toNat := by omega
        go_wp2
        go_ret
        exact ⟨ret_int (by rw [HC.out]), hbel⟩
end Go.Proofs.Ytbimcdaplnmjdaa
