/-
  The law InodeOwn, walked.
-/
import Derived.Test.YtgeomfgfeemciaaInH
namespace Go.Proofs.Ytgeomfgfeemciaa
open Go.RowKit
set_option linter.unusedSimpArgs false in
set_option linter.unusedVariables false in
set_option maxRecDepth 100000 in
set_option maxHeartbeats 8000000 in
theorem own_walk (x : Ino) (p q : Option Addr) (n c m d : Nat) (xs : List Nat) (s : Int) (w : World) (hx : InE w q m d x.rt) (ht : In w p n c xs) :
    Calls Try.prog 6 #[.slice p n c, .int .i64 s, x.val q m d] w fun e w' => e = .returned (.bool true) ∧ Below w.heap.size w w' := by
  obtain ⟨kd, lk, sz, nx, ge, dp, rt⟩ := x
  dsimp only at hx
  have hb0 := below_alloc w (.cells #[.int .i64 kd, .int .i64 lk, .int .i64 sz, .int .i64 nx, .int .i64 ge, .int .i64 dp, .slice q m d] 24)
  have r0 := Blk.new' w 24 #[.int .i64 kd, .int .i64 lk, .int .i64 sz, .int .i64 nx, .int .i64 ge, .int .i64 dp, .slice q m d]
  go_enter Try.func6, Try.ntmps6
  go_wp2_with fail
  refine (live_any _).mono ?_
  rintro e w1 ⟨rfl, hb1⟩
  have r1 := r0.kept hb1
  have hx1 := (hx.below hb0).below hb1
  have ht1 := (ht.below hb0).below hb1
  have hB1 := bt hb0 hb1
  obtain ⟨a0, a1, a2, a3, a4, a5, a6⟩ := r1.ino7
  have hput := fun w hx ht => iput_any ⟨kd, lk, sz, nx, ge, dp, rt⟩ p q n c m d xs s w hx ht
  by_cases he : putE xs s ⟨kd, lk, sz, nx, ge, dp, rt⟩ = 0
  · obtain ⟨hth, hm⟩ := put_ok he
    rw [he] at hput
    have HO : Hid (∀ i : Int, 0 ≤ i ∧ i ≤ 3 → getI (putL xs s ⟨kd, lk, sz, nx, ge, dp, rt⟩) i = (if i = s then ⟨kd, lk, sz, nx, ge, dp, rt⟩ else getI xs i) ∧ getE (putL xs s ⟨kd, lk, sz, nx, ge, dp, rt⟩) i = (if i = s then 0 else getE xs i)) := fun i hi => own_slot hth hm hi
    have HN : Hid ((putL xs s ⟨kd, lk, sz, nx, ge, dp, rt⟩).length = 256) := putL_len hth hm
    have hn := (thB_iff.1 hth).1
    rw [ht.len] at hn
    subst hn
    clear he hth hm
    generalize putL xs s ⟨kd, lk, sz, nx, ge, dp, rt⟩ = P at *
    go_wp2_with fail
    refine (hput _ hx1 ht1).mono ?_
    rintro e w2 ⟨p2, n2, c2, rfl, hin2, hb2⟩
    have hn2 := hin2.len
    rw [HN.out] at hn2
    subst hn2
    have r2 := r1.kept hb2
    have hx2 := hx1.below hb2
    have ht2 := ht1.below hb2
    have hB2 := bt hB1 hb2
    clear a0 a1 a2 a3 a4 a5 a6 hput r0 r1 hb0 hb1 hb2 hx1 ht1 hB1
    go_wp2
    go_loopw [25] (fun i wr => ∃ k : Nat, k ≤ 4 ∧ i = .int .i64 (k : Int) ∧ Below w2.heap.size w2 wr) (fun i _ => 4 - (intOf i).toNat)
    case atStart => exact ⟨0, by omega, rfl, Below.refl _ _⟩
    case round =>
      obtain ⟨k, hk, rfl, hbel⟩ := hrel
      by_cases hlt : k < 4
      · have hki : (k : Int) < 4 := by omega
        obtain ⟨o1, o2⟩ := HO.out (k : Int) (by omega)
        have hg1 := fun p n c w h => iget_any p n c xs (k : Int) w h
        have hg2 := fun p n c w h => iget_any p n c P (k : Int) w h
        simp only [o1, o2] at hg2
        by_cases hs : (k : Int) = s
        · have hse : ((k : Int) == s) = true := by rw [hs]; simp
          simp only [if_pos hs] at hg2
          generalize getE xs (k : Int) = ea at hg1
          generalize getI xs (k : Int) = a at hg1
          obtain ⟨ad, al, az, an, ag, ah, at'⟩ := a
          dsimp only at hg1
          clear o1 o2 hs
          go_wp2_with fail
          refine (hg1 p 256 c _ (ht2.below hbel)).mono ?_
          rintro e w3 ⟨p3, n3, c3, rfl, hi3, hb3, hf3⟩
          have k3 := below_alloc w3 (.cells #[.int .i64 ad, .int .i64 al, .int .i64 az, .int .i64 an, .int .i64 ag, .int .i64 ah, .slice p3 n3 c3] 24)
          have sA := Blk.new' w3 24 #[.int .i64 ad, .int .i64 al, .int .i64 az, .int .i64 an, .int .i64 ag, .int .i64 ah, .slice p3 n3 c3]
          have hB3 := bt (bt hbel hb3) k3
          have hi4 := hi3.below k3
          have hl3 : w3.heap.size < (w3.alloc (.cells #[.int .i64 ad, .int .i64 al, .int .i64 az, .int .i64 an, .int .i64 ag, .int .i64 ah, .slice p3 n3 c3] 24)).heap.size := by rw [World.size_alloc]; omega
          go_wp2_with fail
          refine (hg2 _ _ _ _ (hin2.below hB3)).mono ?_
          rintro e w5 ⟨p5, n5, c5, rfl, hi5, hb5, hf5⟩
          have k5 := below_alloc w5 (.cells #[.int .i64 kd, .int .i64 lk, .int .i64 sz, .int .i64 nx, .int .i64 ge, .int .i64 dp, .slice p5 n5 c5] 24)
          have sB := Blk.new' w5 24 #[.int .i64 kd, .int .i64 lk, .int .i64 sz, .int .i64 nx, .int .i64 ge, .int .i64 dp, .slice p5 n5 c5]
          have hB5 := bt (bt hB3 hb5) k5
          have sA5 := (sA.kept hb5).kept k5
          have hi6 := hi5.below k5
          have hi7 := (hi4.below hb5).below k5
          have rX := r2.kept hB5
          have hx5 := hx2.below hB5
          have hne : w3.heap.size ≠ w5.heap.size := by have := hb5.size; omega
          obtain ⟨a0, a1, a2, a3, a4, a5, a6⟩ := rX.ino7
          have hw3 := (bt hbel hb3).size
          go_wp2_with (guard_target = wpList _ _ _ (Oper.mk _ (Op.store 24 (Operand.tmp 10) _) _ _ _ _ :: _) _ _; refine wpList_store_blk rfl 24 (.tmp 10) (.tmp 43) rfl _ 0 [.int .i64 kd, .int .i64 lk, .int .i64 sz, .int .i64 nx, .int .i64 ge, .int .i64 dp, .slice q m d] rfl rfl sA5 (by simp) size_ino one7 ?_; intro w8 b8 t8; have b8 : Blk w8 w3.heap.size 24 [.int .i64 kd, .int .i64 lk, .int .i64 sz, .int .i64 nx, .int .i64 ge, .int .i64 dp, .slice q m d] := b8; obtain ⟨y0, y1, y2, y3, y4, y5, y6⟩ := b8.ino7; obtain ⟨z0, z1, z2, z3, z4, z5, z6⟩ := (sB.turned t8 hne.symm).ino7; clear a0 a1 a2 a3 a4 a5 a6)
          refine (rsame_any ⟨kd, lk, sz, nx, ge, dp, rt⟩ ⟨kd, lk, sz, nx, ge, dp, rt⟩ q p5 m d n5 c5 _ (hx5.turnedAt t8 (fun h0 a h => by have := hx2.lt h0 a h; omega)) (hi6.turnedAt t8 (fun _ a h => by have := hf5 a h; omega))).mono ?_
          rintro e w9 ⟨rfl, hb9⟩
          rw [sameB_iff.2 rfl]
          have hB9 := bt (t8.below hB5 hw3) hb9
          clear y0 y1 y2 y3 y4 y5 y6 z0 z1 z2 z3 z4 z5 z6
          go_wp2
          go_roundw
          case rel => exact ⟨k + 1, by omega, by go_num, hB9⟩
          case measure => simp [intOf]; omega
        · have hse : ((k : Int) == s) = false := by rw [beq_eq_false_iff_ne]; exact hs
          simp only [if_neg hs] at hg2
          generalize getE xs (k : Int) = ea at hg1 hg2
          generalize getI xs (k : Int) = a at hg1 hg2
          obtain ⟨ad, al, az, an, ag, ah, at'⟩ := a
          dsimp only at hg1 hg2
          clear o1 o2 hs
          go_wp2_with fail
          refine (hg1 p 256 c _ (ht2.below hbel)).mono ?_
          rintro e w3 ⟨p3, n3, c3, rfl, hi3, hb3, hf3⟩
          have k3 := below_alloc w3 (.cells #[.int .i64 ad, .int .i64 al, .int .i64 az, .int .i64 an, .int .i64 ag, .int .i64 ah, .slice p3 n3 c3] 24)
          have sA := Blk.new' w3 24 #[.int .i64 ad, .int .i64 al, .int .i64 az, .int .i64 an, .int .i64 ag, .int .i64 ah, .slice p3 n3 c3]
          have hB3 := bt (bt hbel hb3) k3
          have hi4 := hi3.below k3
          have hl3 : w3.heap.size < (w3.alloc (.cells #[.int .i64 ad, .int .i64 al, .int .i64 az, .int .i64 an, .int .i64 ag, .int .i64 ah, .slice p3 n3 c3] 24)).heap.size := by rw [World.size_alloc]; omega
          go_wp2_with fail
          refine (hg2 _ _ _ _ (hin2.below hB3)).mono ?_
          rintro e w5 ⟨p5, n5, c5, rfl, hi5, hb5, hf5⟩
          have k5 := below_alloc w5 (.cells #[.int .i64 ad, .int .i64 al, .int .i64 az, .int .i64 an, .int .i64 ag, .int .i64 ah, .slice p5 n5 c5] 24)
          have sB := Blk.new' w5 24 #[.int .i64 ad, .int .i64 al, .int .i64 az, .int .i64 an, .int .i64 ag, .int .i64 ah, .slice p5 n5 c5]
          have hB5 := bt (bt hB3 hb5) k5
          have sA5 := (sA.kept hb5).kept k5
          have hi6 := hi5.below k5
          have hi7 := (hi4.below hb5).below k5
          have rX := r2.kept hB5
          have hx5 := hx2.below hB5
          have hne : w3.heap.size ≠ w5.heap.size := by have := hb5.size; omega
          obtain ⟨y0, y1, y2, y3, y4, y5, y6⟩ := sA5.ino7
          obtain ⟨z0, z1, z2, z3, z4, z5, z6⟩ := sB.ino7
          go_wp2_with fail
          refine (rsame_any ⟨ad, al, az, an, ag, ah, at'⟩ ⟨ad, al, az, an, ag, ah, at'⟩ p3 p5 n3 c3 n5 c5 _ hi7 hi6).mono ?_
          rintro e w9 ⟨rfl, hb9⟩
          rw [sameB_iff.2 rfl]
          have hB9 := bt hB5 hb9
          clear y0 y1 y2 y3 y4 y5 y6 z0 z1 z2 z3 z4 z5 z6
          go_wp2
          go_roundw
          case rel => exact ⟨k + 1, by omega, by go_num, hB9⟩
          case measure => simp [intOf]; omega
      · have hkn : ¬ (k : Int) < 4 := by omega
        go_wp2
        go_ret
        exact ⟨rfl, bt hB2 hbel⟩
  · have hez : (putE xs s ⟨kd, lk, sz, nx, ge, dp, rt⟩ != 0) = true := by rw [bne_iff_ne]; exact he
    clear he
    generalize putE xs s ⟨kd, lk, sz, nx, ge, dp, rt⟩ = pe at *
    go_wp2_with fail
    refine (hput _ hx1 ht1).mono ?_
    rintro e w2 ⟨p2, n2, c2, rfl, hin2, hb2⟩
    go_wp2
    go_ret
    exact ⟨rfl, bt hB1 hb2⟩
end Go.Proofs.Ytgeomfgfeemciaa
