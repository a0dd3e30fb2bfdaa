/-
  What the reference's Check of inodes answers.
-/
import Derived.Test.YtgeomfgfeemciaaInRA
namespace Go.Proofs.Ytgeomfgfeemciaa
open Go.RowKit
theorem fit_no {x : Ino} (h : Fit x → False) : inoE x = 140 := inoE_no (by
  cases hb : inoB x with
  | false => rfl
  | true => exact (h (Fit.of hb)).elim)
set_option linter.unusedSimpArgs false in
set_option linter.unusedVariables false in
set_option maxRecDepth 100000 in
set_option maxHeartbeats 8000000 in
theorem rcheck14_any (x : Ino) (p : Option Addr) (n c : Nat) (w : World) (hx : InE w p n c x.rt) : Calls Try.prog 15 #[x.val p n c] w fun e w' => e = .returned (.int .i64 (inoE x)) ∧ Below w.heap.size w w' := by
  obtain ⟨kd, lk, sz, nx, ge, dp, rt⟩ := x
  dsimp only at hx
  have hb0 := below_alloc w (.cells #[.int .i64 kd, .int .i64 lk, .int .i64 sz, .int .i64 nx, .int .i64 ge, .int .i64 dp, .slice p n c] 24)
  have hx1 := hx.below hb0
  have HL : Hid (rt.length = n) := hx.len
  have r0 := Blk.new' w 24 #[.int .i64 kd, .int .i64 lk, .int .i64 sz, .int .i64 nx, .int .i64 ge, .int .i64 dp, .slice p n c]
  by_cases c0 : kd < 0
  · have HE : Hid (inoE ⟨kd, lk, sz, nx, ge, dp, rt⟩ = 140) := fit_no (fun f => by have := f.kd; dsimp only at this; omega)
    go_enter Try.func15, Try.ntmps15
    go_wp2
    go_ret
    exact ⟨ret_int HE.out.symm, hb0⟩
  by_cases c1 : kd > 2
  · have HE : Hid (inoE ⟨kd, lk, sz, nx, ge, dp, rt⟩ = 140) := fit_no (fun f => by have := f.kd; dsimp only at this; omega)
    go_enter Try.func15, Try.ntmps15
    go_wp2
    go_ret
    exact ⟨ret_int HE.out.symm, hb0⟩
  by_cases c2 : lk < 0
  · have HE : Hid (inoE ⟨kd, lk, sz, nx, ge, dp, rt⟩ = 140) := fit_no (fun f => by have := f.lk; dsimp only at this; omega)
    go_enter Try.func15, Try.ntmps15
    go_wp2
    go_ret
    exact ⟨ret_int HE.out.symm, hb0⟩
  by_cases c3 : lk > 1000
  · have HE : Hid (inoE ⟨kd, lk, sz, nx, ge, dp, rt⟩ = 140) := fit_no (fun f => by have := f.lk; dsimp only at this; omega)
    go_enter Try.func15, Try.ntmps15
    go_wp2
    go_ret
    exact ⟨ret_int HE.out.symm, hb0⟩
  by_cases c4 : sz < 0
  · have HE : Hid (inoE ⟨kd, lk, sz, nx, ge, dp, rt⟩ = 140) := fit_no (fun f => by have := f.sz; dsimp only at this; omega)
    go_enter Try.func15, Try.ntmps15
    go_wp2
    go_ret
    exact ⟨ret_int HE.out.symm, hb0⟩
  by_cases c5 : sz > 16777216
  · have HE : Hid (inoE ⟨kd, lk, sz, nx, ge, dp, rt⟩ = 140) := fit_no (fun f => by have := f.sz; dsimp only at this; omega)
    go_enter Try.func15, Try.ntmps15
    go_wp2
    go_ret
    exact ⟨ret_int HE.out.symm, hb0⟩
  by_cases c6 : nx < 0
  · have HE : Hid (inoE ⟨kd, lk, sz, nx, ge, dp, rt⟩ = 140) := fit_no (fun f => by have := f.nx; dsimp only at this; omega)
    go_enter Try.func15, Try.ntmps15
    go_wp2
    go_ret
    exact ⟨ret_int HE.out.symm, hb0⟩
  by_cases c7 : nx > 65536
  · have HE : Hid (inoE ⟨kd, lk, sz, nx, ge, dp, rt⟩ = 140) := fit_no (fun f => by have := f.nx; dsimp only at this; omega)
    go_enter Try.func15, Try.ntmps15
    go_wp2
    go_ret
    exact ⟨ret_int HE.out.symm, hb0⟩
  by_cases c8 : ge < 0
  · have HE : Hid (inoE ⟨kd, lk, sz, nx, ge, dp, rt⟩ = 140) := fit_no (fun f => by have := f.ge; dsimp only at this; omega)
    go_enter Try.func15, Try.ntmps15
    go_wp2
    go_ret
    exact ⟨ret_int HE.out.symm, hb0⟩
  by_cases c9 : ge ≥ 4294967296
  · have HE : Hid (inoE ⟨kd, lk, sz, nx, ge, dp, rt⟩ = 140) := fit_no (fun f => by have := f.ge; dsimp only at this; omega)
    go_enter Try.func15, Try.ntmps15
    go_wp2
    go_ret
    exact ⟨ret_int HE.out.symm, hb0⟩
  by_cases c10 : dp < 0
  · have HE : Hid (inoE ⟨kd, lk, sz, nx, ge, dp, rt⟩ = 140) := fit_no (fun f => by have := f.dp; dsimp only at this; omega)
    go_enter Try.func15, Try.ntmps15
    go_wp2
    go_ret
    exact ⟨ret_int HE.out.symm, hb0⟩
  by_cases c11 : dp > 2
  · have HE : Hid (inoE ⟨kd, lk, sz, nx, ge, dp, rt⟩ = 140) := fit_no (fun f => by have := f.dp; dsimp only at this; omega)
    go_enter Try.func15, Try.ntmps15
    go_wp2
    go_ret
    exact ⟨ret_int HE.out.symm, hb0⟩
  have HN : Hid (numB ⟨kd, lk, sz, nx, ge, dp, rt⟩ = true) := numB_iff.2 ⟨by dsimp only; omega, by dsimp only; omega, by dsimp only; omega, by dsimp only; omega, by dsimp only; omega⟩
  cases h2 : rootB ⟨kd, lk, sz, nx, ge, dp, rt⟩ with
  | false =>
    have HE : Hid (inoE ⟨kd, lk, sz, nx, ge, dp, rt⟩ = 140) := inoE_no (by unfold inoB; rw [HN.out, h2]; rfl)
    go_enter Try.func15, Try.ntmps15
    go_wp2_with fail
    refine (rroot_any ⟨kd, lk, sz, nx, ge, dp, rt⟩ p n c _ hx1).mono ?_
    rintro e w1 ⟨rfl, hb1⟩
    rw [h2]
    have hbq := bt hb0 hb1
    obtain ⟨a0, a1, a2, a3, a4, a5, a6⟩ := (r0.kept hb1).ino7
    go_wp2
    go_ret
    exact ⟨ret_int HE.out.symm, hbq⟩
  | true =>
    have HK : Hid (∀ b, kindB ⟨kd, lk, sz, nx, ge, dp, rt⟩ = b → inoE ⟨kd, lk, sz, nx, ge, dp, rt⟩ = if b = true then 0 else 140) := fun b h => by unfold inoE inoB; rw [HN.out, h2, h]; rfl
    by_cases k0 : kd = 0
    · subst k0
      by_cases z1 : lk = 0
      · subst z1
        by_cases z2 : sz = 0
        · subst z2
          by_cases z3 : nx = 0
          · subst z3
            by_cases z4 : dp = 0
            · subst z4
              by_cases z5 : n = 0
              · have HE : Hid (inoE ⟨0, 0, 0, 0, ge, 0, rt⟩ = 0) := HK.out true (by unfold kindB zeroB; dsimp only; rw [HL.out, z5]; rfl)
                have z5' : ((n : Int) != 0) = false := by rw [z5]; rfl
                clear z5
                go_enter Try.func15, Try.ntmps15
                go_wp2_with fail
                refine (rroot_any ⟨0, 0, 0, 0, ge, 0, rt⟩ p n c _ hx1).mono ?_
                rintro e w1 ⟨rfl, hb1⟩
                rw [h2]
                have hbq := bt hb0 hb1
                obtain ⟨a0, a1, a2, a3, a4, a5, a6⟩ := (r0.kept hb1).ino7
                go_wp2
                go_ret
                exact ⟨ret_int HE.out.symm, hbq⟩
              · have HE : Hid (inoE ⟨0, 0, 0, 0, ge, 0, rt⟩ = 140) := HK.out false (by unfold kindB zeroB; dsimp only; rw [HL.out, show (n == 0) = false from by rw [beq_eq_false_iff_ne]; exact z5]; simp)
                have z5' : ((n : Int) != 0) = true := by rw [bne_iff_ne]; omega
                clear z5
                go_enter Try.func15, Try.ntmps15
                go_wp2_with fail
                refine (rroot_any ⟨0, 0, 0, 0, ge, 0, rt⟩ p n c _ hx1).mono ?_
                rintro e w1 ⟨rfl, hb1⟩
                rw [h2]
                have hbq := bt hb0 hb1
                obtain ⟨a0, a1, a2, a3, a4, a5, a6⟩ := (r0.kept hb1).ino7
                go_wp2
                go_ret
                exact ⟨ret_int HE.out.symm, hbq⟩
            · have HE : Hid (inoE ⟨0, 0, 0, 0, ge, dp, rt⟩ = 140) := HK.out false (by unfold kindB zeroB; dsimp only; rw [show (dp == 0) = false from by rw [beq_eq_false_iff_ne]; exact z4]; simp)
              have z' : (dp != 0) = true := by rw [bne_iff_ne]; exact z4
              go_enter Try.func15, Try.ntmps15
              go_wp2_with fail
              refine (rroot_any ⟨0, 0, 0, 0, ge, dp, rt⟩ p n c _ hx1).mono ?_
              rintro e w1 ⟨rfl, hb1⟩
              rw [h2]
              have hbq := bt hb0 hb1
              obtain ⟨a0, a1, a2, a3, a4, a5, a6⟩ := (r0.kept hb1).ino7
              go_wp2
              go_ret
              exact ⟨ret_int HE.out.symm, hbq⟩
          · have HE : Hid (inoE ⟨0, 0, 0, nx, ge, dp, rt⟩ = 140) := HK.out false (by unfold kindB zeroB; dsimp only; rw [show (nx == 0) = false from by rw [beq_eq_false_iff_ne]; exact z3]; simp)
            have z' : (nx != 0) = true := by rw [bne_iff_ne]; exact z3
            go_enter Try.func15, Try.ntmps15
            go_wp2_with fail
            refine (rroot_any ⟨0, 0, 0, nx, ge, dp, rt⟩ p n c _ hx1).mono ?_
            rintro e w1 ⟨rfl, hb1⟩
            rw [h2]
            have hbq := bt hb0 hb1
            obtain ⟨a0, a1, a2, a3, a4, a5, a6⟩ := (r0.kept hb1).ino7
            go_wp2
            go_ret
            exact ⟨ret_int HE.out.symm, hbq⟩
        · have HE : Hid (inoE ⟨0, 0, sz, nx, ge, dp, rt⟩ = 140) := HK.out false (by unfold kindB zeroB; dsimp only; rw [show (sz == 0) = false from by rw [beq_eq_false_iff_ne]; exact z2]; simp)
          have z' : (sz != 0) = true := by rw [bne_iff_ne]; exact z2
          go_enter Try.func15, Try.ntmps15
          go_wp2_with fail
          refine (rroot_any ⟨0, 0, sz, nx, ge, dp, rt⟩ p n c _ hx1).mono ?_
          rintro e w1 ⟨rfl, hb1⟩
          rw [h2]
          have hbq := bt hb0 hb1
          obtain ⟨a0, a1, a2, a3, a4, a5, a6⟩ := (r0.kept hb1).ino7
          go_wp2
          go_ret
          exact ⟨ret_int HE.out.symm, hbq⟩
      · have HE : Hid (inoE ⟨0, lk, sz, nx, ge, dp, rt⟩ = 140) := HK.out false (by unfold kindB zeroB; dsimp only; rw [show (lk == 0) = false from by rw [beq_eq_false_iff_ne]; exact z1]; simp)
        have z' : (lk != 0) = true := by rw [bne_iff_ne]; exact z1
        go_enter Try.func15, Try.ntmps15
        go_wp2_with fail
        refine (rroot_any ⟨0, lk, sz, nx, ge, dp, rt⟩ p n c _ hx1).mono ?_
        rintro e w1 ⟨rfl, hb1⟩
        rw [h2]
        have hbq := bt hb0 hb1
        obtain ⟨a0, a1, a2, a3, a4, a5, a6⟩ := (r0.kept hb1).ino7
        go_wp2
        go_ret
        exact ⟨ret_int HE.out.symm, hbq⟩
    · have k0' : (kd == 0) = false := by rw [beq_eq_false_iff_ne]; exact k0
      by_cases k2 : kd = 2
      · subst k2
        have hs0 : 0 ≤ sz := by omega
        cases hz : (sz % 256 == 0) with
        | true =>
          have HE : Hid (inoE ⟨2, lk, sz, nx, ge, dp, rt⟩ = 0) := HK.out true hz
          have hz' : (sz % 256 != 0) = false := by rw [bne_eq_false_iff_eq]; exact beq_iff_eq.1 hz
          clear hz
          go_enter Try.func15, Try.ntmps15
          go_wp2_with fail
          refine (rroot_any ⟨2, lk, sz, nx, ge, dp, rt⟩ p n c _ hx1).mono ?_
          rintro e w1 ⟨rfl, hb1⟩
          rw [h2]
          have hbq := bt hb0 hb1
          obtain ⟨a0, a1, a2, a3, a4, a5, a6⟩ := (r0.kept hb1).ino7
          go_wp2
          go_ret
          exact ⟨ret_int HE.out.symm, hbq⟩
        | false =>
          have HE : Hid (inoE ⟨2, lk, sz, nx, ge, dp, rt⟩ = 140) := HK.out false hz
          have hz' : (sz % 256 != 0) = true := by rw [bne_iff_ne]; exact beq_eq_false_iff_ne.1 hz
          clear hz
          go_enter Try.func15, Try.ntmps15
          go_wp2_with fail
          refine (rroot_any ⟨2, lk, sz, nx, ge, dp, rt⟩ p n c _ hx1).mono ?_
          rintro e w1 ⟨rfl, hb1⟩
          rw [h2]
          have hbq := bt hb0 hb1
          obtain ⟨a0, a1, a2, a3, a4, a5, a6⟩ := (r0.kept hb1).ino7
          go_wp2
          go_ret
          exact ⟨ret_int HE.out.symm, hbq⟩
      · have k1 : kd = 1 := by omega
        subst k1
        have HE : Hid (inoE ⟨1, lk, sz, nx, ge, dp, rt⟩ = 0) := HK.out true rfl
        go_enter Try.func15, Try.ntmps15
        go_wp2_with fail
        refine (rroot_any ⟨1, lk, sz, nx, ge, dp, rt⟩ p n c _ hx1).mono ?_
        rintro e w1 ⟨rfl, hb1⟩
        rw [h2]
        have hbq := bt hb0 hb1
        obtain ⟨a0, a1, a2, a3, a4, a5, a6⟩ := (r0.kept hb1).ino7
        go_wp2
        go_ret
        exact ⟨ret_int HE.out.symm, hbq⟩
end Go.Proofs.Ytgeomfgfeemciaa
