/-
  What the law's begun answers.
-/
import Derived.Test.YthpbeppfiinooaaBmEq
namespace Go.Proofs.Ythpbeppfiinooaa
open Go.RowKit
/-- The bits of begun's bitmap. -/
def bgF (i : Nat) : Bool := flF (fFrom 10) 3 4 i
theorem bg_chk1 {ys : List Nat} (h : Bm ys (fFrom 10)) : chkB ys 10 = true := (chkB_iff _ _).2 ⟨by decide, by decide, h.len, fun i h1 h2 => by
  rw [h.bit i h2]; unfold fFrom; have : (10 : Int).toNat = 10 := rfl; simp; omega⟩
theorem bg_set {ys : List Nat} (h : Bm ys (fFrom 10)) : setE ys 10 3 4 false = 0 := setE_ok (bg_chk1 h) (by decide) ((allB_iff _ _ _).2 fun j hj => by
  have e3 : (3 : Int).toNat = 3 := rfl
  have e4 : (4 : Int).toNat = 4 := rfl
  rw [e4] at hj
  rw [e3, h.bit _ (by omega)]
  unfold fFrom
  simp; omega)
theorem bg_bm {ys zs : List Nat} (h : Bm ys (fFrom 10)) (h2 : Bm zs (flF (bitL ys) (3 : Int).toNat (4 : Int).toNat)) : Bm zs bgF := h2.of fun i hi => by
  have e3 : (3 : Int).toNat = 3 := rfl
  have e4 : (4 : Int).toNat = 4 := rfl
  unfold bgF flF
  rw [e3, e4, h.bit i hi]
theorem bg_chk2 {zs : List Nat} (h : Bm zs bgF) : chkB zs 10 = true := (chkB_iff _ _).2 ⟨by decide, by decide, h.len, fun i h1 h2 => by
  have : (10 : Int).toNat = 10 := rfl
  rw [h.bit i h2]; unfold bgF flF fFrom; rw [if_neg (by omega)]; simp; omega⟩
theorem bg_n {zs : List Nat} (h : Bm zs bgF) : nOf zs 10 = 10 := by unfold nOf; rw [if_pos (bg_chk2 h)]; rfl
theorem bg_run {zs : List Nat} (h : Bm zs bgF) : runR (runsL (bitL zs) (nOf zs 10)) (goalN (nOf zs 10) 2) 3 = (7, 3) := by
  rw [bg_n h, runsL_congr (n := 10) (g := bgF) fun i hi => h.bit i (by omega)]
  decide
theorem bg_cnt {zs : List Nat} (h : Bm zs bgF) : cntF (bitL zs) (nOf zs 10) = 6 := by
  rw [bg_n h, cntF_congr (n := 10) (g := bgF) (fun i hi => h.bit i (by omega)) 10 (Nat.le_refl _)]
  decide
theorem bg_has {zs : List Nat} (h : Bm zs bgF) : hasB zs 10 6 = true ∧ hasB zs 10 7 = false := by
  have e6 : (6 : Int).toNat = 6 := rfl
  have e7 : (7 : Int).toNat = 7 := rfl
  unfold hasB
  rw [bg_n h, e6, e7, h.bit 6 (by decide), h.bit 7 (by decide)]
  decide
theorem begun_any (w : World) : Calls Try.prog 10 #[] w fun e w' => e = .returned (.bool true) ∧ Below w.heap.size w w' := by
  have hnew := new_ok 10 w (by decide)
  go_enter Try.func10, Try.ntmps10
  go_wp2_with fail
  refine hnew.mono ?_
  rintro e w1 ⟨p1, n1, c1, ys, rfl, hin1, hm1, hb1⟩
  have hm1 := hm1.1 rfl
  have hset := set_any p1 n1 c1 ys 10 3 4 w1 hin1 (by decide) (by decide)
  rw [bg_set hm1] at hset
  go_wp2_with fail
  refine hset.mono ?_
  rintro e w2 ⟨p2, n2, c2, zs, rfl, hin2, hm2, hb2⟩
  have hm2 := bg_bm hm1 (hm2.1 rfl)
  have hrun := run_any p2 n2 c2 zs 10 2 3 w2 hin2
  rw [bg_run hm2] at hrun
  go_wp2_with fail
  refine hrun.mono ?_
  rintro e w3 ⟨rfl, hb3⟩
  have hcnt := count_any p2 n2 c2 zs 10 w3 (hin2.below hb3)
  rw [bg_cnt hm2] at hcnt
  go_wp2_with fail
  refine hcnt.mono ?_
  rintro e w4 ⟨rfl, j4, rfl⟩
  have hh6 := has_any p2 n2 c2 zs 10 6 (w3.drewN j4) ((hin2.below hb3).drewN _)
  rw [(bg_has hm2).1] at hh6
  go_wp2_with fail
  refine hh6.mono ?_
  rintro e w5 ⟨rfl, j5, rfl⟩
  have hh7 := has_any p2 n2 c2 zs 10 7 (w3.drewN (j4 + j5)) ((hin2.below hb3).drewN _)
  rw [(bg_has hm2).2] at hh7
  go_wp2_with fail
  refine hh7.mono ?_
  rintro e w6 ⟨rfl, j6, rfl⟩
  go_wp2
  go_ret
  exact ⟨rfl, below_drewN (bt (bt hb1 hb2) hb3) _⟩
end Go.Proofs.Ythpbeppfiinooaa
