/-
  What the reference's root and Check of inodes answer.
-/
import Derived.Test.YtgeomfgfeemciaaInK
import Derived.Test.YtgeomfgfeemciaaInBk
import Derived.Test.YtgeomfgfeemciaaXtRK
namespace Go.Proofs.Ytgeomfgfeemciaa
open Go.RowKit
set_option linter.unusedSimpArgs false in
set_option linter.unusedVariables false in
set_option maxRecDepth 100000 in
set_option maxHeartbeats 8000000 in
theorem rroot_any (x : Ino) (p : Option Addr) (n c : Nat) (w : World) (hx : InE w p n c x.rt) : Calls Try.prog 40 #[x.val p n c] w fun e w' => e = .returned (.bool (rootB x)) ∧ Below w.heap.size w w' := by
  obtain ⟨kd, lk, sz, nx, ge, dp, rt⟩ := x
  dsimp only at hx
  have HL : Hid (rt.length = n) := hx.len
  have hroom := hx.room
  have hb0 := below_alloc w (.cells #[.int .i64 kd, .int .i64 lk, .int .i64 sz, .int .i64 nx, .int .i64 ge, .int .i64 dp, .slice p n c] 24)
  have r0 := Blk.new' w 24 #[.int .i64 kd, .int .i64 lk, .int .i64 sz, .int .i64 nx, .int .i64 ge, .int .i64 dp, .slice p n c]
  have hx1 := hx.below hb0
  by_cases h4 : 4 < n
  · have HE : Hid (rootB ⟨kd, lk, sz, nx, ge, dp, rt⟩ = false) := by show _ = _; unfold rootB; dsimp only; rw [HL.out, show decide (n ≤ 4) = false from by rw [decide_eq_false_iff_not]; omega]; rfl
    have h4' : (n : Int) > 4 := by omega
    go_enter Try.func40, Try.ntmps40
    go_wp2
    go_ret
    exact ⟨ret_bool HE.out.symm, hb0⟩
  have h4' : ¬ (n : Int) > 4 := by omega
  by_cases hd : dp = 0
  · subst hd
    have HE : Hid (rootB ⟨kd, lk, sz, nx, ge, 0, rt⟩ = chkB rt) := by show _ = _; unfold rootB; dsimp only; rw [HL.out, show decide (n ≤ 4) = true from by rw [decide_eq_true_eq]; omega, if_pos rfl]; rfl
    go_enter Try.func40, Try.ntmps40
    go_wp2_with fail
    refine (rcheck_any p n c rt _ hx1).mono ?_
    rintro e w1 ⟨rfl, hb1⟩
    cases hc : chkB rt with
    | true =>
      have HC : Hid _ := hc
      rw [chkE_ok hc]
      clear hc
      go_wp2
      go_ret
      exact ⟨ret_bool (HE.out.trans HC.out).symm, bt hb0 hb1⟩
    | false =>
      have HC : Hid _ := hc
      rw [chkE_no hc]
      clear hc
      go_wp2
      go_ret
      exact ⟨ret_bool (HE.out.trans HC.out).symm, bt hb0 hb1⟩
  have hd' : (dp == 0) = false := by rw [beq_eq_false_iff_ne]; exact hd
  have HR : Hid (rootB ⟨kd, lk, sz, nx, ge, dp, rt⟩ = (decide (0 < n) && entsB rt)) := by show _ = _; unfold rootB; dsimp only; rw [HL.out, show decide (n ≤ 4) = true from by rw [decide_eq_true_eq]; omega, if_neg hd]; rfl
  clear hd
  go_enter Try.func40, Try.ntmps40
  go_wp2
  go_loopw [3] (fun i wr => ∃ k : Nat, k ≤ n ∧ i = .int .i64 k ∧ (∀ j, j < k → entAt rt j = true) ∧ Below (w.alloc (.cells #[.int .i64 kd, .int .i64 lk, .int .i64 sz, .int .i64 nx, .int .i64 ge, .int .i64 dp, .slice p n c] 24)).heap.size (w.alloc (.cells #[.int .i64 kd, .int .i64 lk, .int .i64 sz, .int .i64 nx, .int .i64 ge, .int .i64 dp, .slice p n c] 24)) wr) (fun i _ => n - (intOf i).toNat)
  case atStart => exact ⟨0, Nat.zero_le _, rfl, fun j hj => absurd hj (Nat.not_lt_zero _), Below.refl _ _⟩
  case round =>
    obtain ⟨k, hk, rfl, hok, hbel⟩ := hrel
    have d6 := (r0.kept hbel).cell' (i := 6) rfl
    by_cases hlt : k < n
    · have hki : (k : Int) < (n : Int) := by omega
      have HOK : Hid (∀ j, j < k → entAt rt j = true) := hok
      have hin := hx1.below hbel
      obtain ⟨b, o, hpe, hbl, hc⟩ := hin.at' (by omega)
      subst hpe
      obtain ⟨e0, e1, e2⟩ := hc k hlt
      have HN : Hid (entAt rt k = false → entsB rt = false) := fun hh => entsB_no (by rw [HL.out]; exact hlt) hh
      have HNX : Hid (entAt rt k = true → ∀ j, j < k + 1 → entAt rt j = true) := fun hh j hj => by
        rcases Nat.lt_succ_iff_lt_or_eq.1 hj with h' | h'
        · exact HOK.out j h'
        · rw [h']; exact hh
      have k0 := Blk.new' wr 51 #[.int .i64 (eE rt k).lo, .int .i64 (eE rt k).ln, .int .i64 (eE rt k).ph]
      have hkA := below_alloc wr (.cells #[.int .i64 (eE rt k).lo, .int .i64 (eE rt k).ln, .int .i64 (eE rt k).ph] 51)
      have hbw := bt hbel hkA
      have hb9 := bt hb0 hbw
      have d6' := ((r0.kept hbel).kept hkA).cell' (i := 6) rfl
      by_cases z0 : (eE rt k).lo < 0
      · have HF : Hid (entsB rt = false) := HN.out (by unfold entAt; rw [show inB (eE rt k).lo 0 65535 = false from by unfold inB; rw [decide_eq_false_iff_not]; omega]; simp)
        clear hok hin hc HN HNX
        generalize eE rt k = e at *
        go_upto_region 9 with fail
        go_quiet (fail)
        go_wp2
        go_ret
        exact ⟨ret_bool (HR.out.trans (by rw [HF.out, Bool.and_false])).symm, below_drewN hb9 _⟩
      by_cases z1 : (eE rt k).lo ≥ 65536
      · have HF : Hid (entsB rt = false) := HN.out (by unfold entAt; rw [show inB (eE rt k).lo 0 65535 = false from by unfold inB; rw [decide_eq_false_iff_not]; omega]; simp)
        clear hok hin hc HN HNX
        generalize eE rt k = e at *
        go_upto_region 9 with fail
        go_quiet (fail)
        go_wp2
        go_ret
        exact ⟨ret_bool (HR.out.trans (by rw [HF.out, Bool.and_false])).symm, below_drewN hb9 _⟩
      by_cases z2 : ¬ (eE rt k).ln = 0
      · have HF : Hid (entsB rt = false) := HN.out (by unfold entAt; rw [show ((eE rt k).ln == 0) = false from by rw [beq_eq_false_iff_ne]; exact z2]; simp)
        clear hok hin hc HN HNX
        have y2 : ((eE rt k).ln != 0) = true := by rw [bne_iff_ne]; exact z2
        generalize eE rt k = e at *
        go_upto_region 9 with fail
        go_quiet (fail)
        go_wp2
        go_ret
        exact ⟨ret_bool (HR.out.trans (by rw [HF.out, Bool.and_false])).symm, below_drewN hb9 _⟩
      have z2' : (eE rt k).ln = 0 := by omega
      have y2 : ((eE rt k).ln != 0) = false := by rw [z2']; rfl
      by_cases z3 : (eE rt k).ph < 1
      · have HF : Hid (entsB rt = false) := HN.out (by unfold entAt; rw [show inB (eE rt k).ph 1 8191 = false from by unfold inB; rw [decide_eq_false_iff_not]; omega]; simp)
        clear hok hin hc HN HNX
        clear z2 z2'
        generalize eE rt k = e at *
        go_upto_region 9 with fail
        go_quiet (fail)
        go_wp2
        go_ret
        exact ⟨ret_bool (HR.out.trans (by rw [HF.out, Bool.and_false])).symm, below_drewN hb9 _⟩
      by_cases z4 : (eE rt k).ph ≥ 8192
      · have HF : Hid (entsB rt = false) := HN.out (by unfold entAt; rw [show inB (eE rt k).ph 1 8191 = false from by unfold inB; rw [decide_eq_false_iff_not]; omega]; simp)
        clear hok hin hc HN HNX
        clear z2 z2'
        generalize eE rt k = e at *
        go_upto_region 9 with fail
        go_quiet (fail)
        go_wp2
        go_ret
        exact ⟨ret_bool (HR.out.trans (by rw [HF.out, Bool.and_false])).symm, below_drewN hb9 _⟩
      rcases Nat.eq_zero_or_pos k with hz | hz
      · have HF := HNX.out (by unfold entAt; rw [show inB (eE rt k).lo 0 65535 = true from inB_iff.2 (by omega), show inB (eE rt k).ph 1 8191 = true from inB_iff.2 (by omega), z2']; simp [hz])
        have hk0 : ¬ (k : Int) > 0 := by omega
        have hk1 : ¬ 0 < k := by omega
        have HF2 : Hid _ := HF
        clear hok hin hc hz HF HN HNX z2 z2'
        generalize eE rt k = e at *
        go_upto_region 9 with fail
        go_quiet (fail)
        go_wp2
        go_roundw
        case rel => exact ⟨k + 1, by omega, by go_num, HF2.out, below_drewN hbw _⟩
        case measure => simp [intOf]; omega
      · obtain ⟨f0, f1, f2⟩ := hc (k - 1) (by omega)
        have f0' := (below_alloc wr (.cells #[.int .i64 (eE rt k).lo, .int .i64 (eE rt k).ln, .int .i64 (eE rt k).ph] 51)).cell (p := ⟨b, o + (k - 1) * 3, none⟩) hbl
        rw [f0] at f0'
        have hk0 : (k : Int) > 0 := by omega
        have hks : (k : Int) - 1 = ((k - 1 : Nat) : Int) := by omega
        have hkn : k - 1 < n := by omega
        by_cases z4' : (eE rt k).lo ≤ (eE rt (k - 1)).lo
        · have HF : Hid (entsB rt = false) := HN.out (by unfold entAt; rw [show decide ((eE rt (k - 1)).lo < (eE rt k).lo) = false from by rw [decide_eq_false_iff_not]; omega, show (k == 0) = false from by rw [beq_eq_false_iff_ne]; omega]; simp)
          clear hok hin hc HN HNX z2 z2'
          generalize eE rt k = e at *
          generalize eE rt (k - 1) = e2 at *
          generalize k - 1 = k1 at *
          go_upto_region 9 with fail
          go_quiet (fail)
          go_wp2
          go_ret
          exact ⟨ret_bool (HR.out.trans (by rw [HF.out, Bool.and_false])).symm, below_drewN hb9 _⟩
        · have HF := HNX.out (by unfold entAt; rw [show inB (eE rt k).lo 0 65535 = true from inB_iff.2 (by omega), show inB (eE rt k).ph 1 8191 = true from inB_iff.2 (by omega), z2']; rw [show decide ((eE rt (k - 1)).lo < (eE rt k).lo) = true from by rw [decide_eq_true_eq]; omega]; simp)
          have HF2 : Hid _ := HF
          clear hok hin hc HF HN HNX z2 z2'
          generalize eE rt k = e at *
          generalize eE rt (k - 1) = e2 at *
          generalize k - 1 = k1 at *
          go_upto_region 9 with fail
          go_quiet (fail)
          go_wp2
          go_roundw
          case rel => exact ⟨k + 1, by omega, by go_num, HF2.out, below_drewN hbw _⟩
          case measure => simp [intOf]; omega
    · have hkn : ¬ (k : Int) < (n : Int) := by omega
      have HF : Hid (entsB rt = true) := entsB_iff.2 fun j hj => hok j (by rw [HL.out] at hj; omega)
      clear hok
      rcases Nat.eq_zero_or_pos n with h0 | h0
      · have HE2 : Hid (rootB ⟨kd, lk, sz, nx, ge, dp, rt⟩ = false) := by show _ = _; rw [HR.out, h0]; rfl
        have h0' : ¬ 0 < n := by omega
        clear h0
        go_wp2
        go_ret
        exact ⟨ret_bool HE2.out.symm, bt hb0 hbel⟩
      · have HE2 : Hid (rootB ⟨kd, lk, sz, nx, ge, dp, rt⟩ = true) := by show _ = _; rw [HR.out, HF.out, show decide (0 < n) = true from by rw [decide_eq_true_eq]; exact h0]; rfl
        have h0' : (n : Int) > 0 := by omega
        go_wp2
        go_ret
        exact ⟨ret_bool HE2.out.symm, bt hb0 hbel⟩
end Go.Proofs.Ytgeomfgfeemciaa
