/-
  BitmapBack returns true.
-/
import Derived.Test.YthpbeppfiinooaaBmFi
import Derived.Test.YthpbeppfiinooaaEqual
namespace Go.Proofs.Ythpbeppfiinooaa
open Go.RowKit
theorem flF_flF (f : Nat → Bool) (a k i : Nat) : flF (flF f a k) a k i = f i := by
  unfold flF
  by_cases h : a ≤ i ∧ i < a + k
  · rw [if_pos h, if_pos h, Bool.not_not]
  · rw [if_neg h, if_neg h]
theorem setE_zero {xs : List Nat} {n a m : Int} {was : Bool} (h : setE xs n a m was = 0) : chkB xs n = true ∧ (0 ≤ a ∧ 0 ≤ m ∧ a + m ≤ n) ∧ ∀ j, j < m.toNat → bitL xs (a.toNat + j) = was := by
  unfold setE at h
  split at h
  · rename_i h1
    split at h
    · rename_i h2
      split at h
      · rename_i h3
        exact ⟨h1, h2, fun j hj => by have := (allB_iff _ _ _).1 h3 j hj; simpa using this⟩
      · cases h
    · cases h
  · cases h
theorem back_chk {xs ys : List Nat} {n a m : Int} {was : Bool} (h : setE xs n a m was = 0) (hy : Bm ys (flF (bitL xs) a.toNat m.toNat)) : chkB ys n = true := by
  obtain ⟨h1, h2, h3⟩ := setE_zero h
  obtain ⟨c1, c2, c3, c4⟩ := (chkB_iff xs n).1 h1
  refine (chkB_iff ys n).2 ⟨c1, c2, hy.len, fun i h4 h5 => ?_⟩
  rw [hy.bit i h5]
  unfold flF
  rw [if_neg (by omega)]
  exact c4 i h4 h5
theorem back_set {xs ys : List Nat} {n a m : Int} {was : Bool} (h : setE xs n a m was = 0) (hy : Bm ys (flF (bitL xs) a.toNat m.toNat)) : setE ys n a m (!was) = 0 := by
  obtain ⟨h1, h2, h3⟩ := setE_zero h
  obtain ⟨c1, c2, c3, c4⟩ := (chkB_iff xs n).1 h1
  refine setE_ok (back_chk h hy) h2 ((allB_iff _ _ _).2 fun j hj => ?_)
  rw [hy.bit _ (by omega)]
  unfold flF
  rw [if_pos (by omega), h3 j hj]
  simp
theorem back_eq {xs ys zs : List Nat} {n a m : Int} {was : Bool} (hb : ∀ x ∈ xs, x < 256) (h : setE xs n a m was = 0) (hy : Bm ys (flF (bitL xs) a.toNat m.toNat)) (hz : Bm zs (flF (bitL ys) a.toNat m.toNat)) : zs = xs := by
  obtain ⟨h1, h2, h3⟩ := setE_zero h
  obtain ⟨c1, c2, c3, c4⟩ := (chkB_iff xs n).1 h1
  refine hz.ext (Bm.self c3 hb) fun i hi => ?_
  have := flF_flF (bitL xs) a.toNat m.toNat i
  unfold flF at this ⊢
  rw [← this]
  by_cases hq : a.toNat ≤ i ∧ i < a.toNat + m.toNat
  · rw [if_pos hq, if_pos hq, hy.bit i hi]; unfold flF; rw [if_pos hq]
  · rw [if_neg hq, if_neg hq, hy.bit i hi]; unfold flF; rw [if_neg hq]
theorem cnt_fl (f : Nat → Bool) (a m : Nat) (h : ∀ j, j < m → f (a + j) = false) (k : Nat) : cntF (flF f a m) k + min m (k - a) = cntF f k := by
  induction k with
  | zero => simp [cntF]
  | succ k ih =>
    unfold cntF
    by_cases hq : a ≤ k ∧ k < a + m
    · have e := h (k - a) (by omega)
      rw [show a + (k - a) = k by omega] at e
      have e2 : flF f a m k = true := by unfold flF; rw [if_pos hq, e]; rfl
      rw [e, e2]
      simp
      omega
    · have e2 : flF f a m k = f k := by unfold flF; rw [if_neg hq]
      rw [e2]
      have : min m (k + 1 - a) = min m (k - a) := by omega
      rw [this]
      omega
theorem nOf_ok {xs : List Nat} {n : Int} (h : chkB xs n = true) : nOf xs n = n.toNat := if_pos h
theorem back_cnt {xs ys : List Nat} {n a m : Int} (h : setE xs n a m false = 0) (hy : Bm ys (flF (bitL xs) a.toNat m.toNat)) : ((cntF (bitL ys) (nOf ys n) : Nat) : Int) = (cntF (bitL xs) (nOf xs n) : Nat) - m := by
  obtain ⟨h1, h2, h3⟩ := setE_zero h
  obtain ⟨c1, c2, c3, c4⟩ := (chkB_iff xs n).1 h1
  rw [nOf_ok h1, nOf_ok (back_chk h hy), cntF_congr (n := n.toNat) (g := flF (bitL xs) a.toNat m.toNat) (fun i hi => hy.bit i (by omega)) _ (Nat.le_refl _)]
  have := cnt_fl (bitL xs) a.toNat m.toNat h3 n.toNat
  omega
set_option linter.unusedSimpArgs false in
set_option maxRecDepth 100000 in
set_option maxHeartbeats 4000000 in
theorem back_walk (p : Option Addr) (m c : Nat) (xs : List Nat) (n a mm : Int) (w : World) (h : In w p m c xs) (ha : a ≤ 9223372036854775807) (hm : mm ≤ 9223372036854775807) :
    Calls Try.prog 6 #[.slice p m c, .int .i64 n, .int .i64 a, .int .i64 mm] w fun e w' => e = .returned (.bool true) ∧ Below w.heap.size w w' := by
  have hle := nOf_le xs n
  have hrt := runs_take (bitL xs) (nOf xs n) hle
  have hll := runsL_len (bitL xs) (nOf xs n)
  have hsum := runsL_sum (bitL xs) (nOf xs n) hle
  have hcle := cntF_le (bitL xs) (nOf xs n)
  obtain ⟨L, hL⟩ : ∃ L, runsL (bitL xs) (nOf xs n) = L := ⟨_, rfl⟩
  rw [hL] at hrt hll hsum
  have HLL : Hid (L.length ≤ 2049) := by show _ ≤ _; omega
  have hLi : (L.length : Int) ≤ 2049 := by omega
  have HL : Hid ((runsL (bitL xs) (nOf xs n)).take 9999 = L) := by show _ = _; rw [hL]; exact hrt
  have HS : Hid (sumP L = cntF (bitL xs) (nOf xs n)) := hsum
  have HC : Hid (cntF (bitL xs) (nOf xs n) ≤ 2048) := by show _ ≤ _; omega
  clear hrt hll hle hL hsum hcle
  go_enter Try.func6, Try.ntmps6
  go_wp2_with fail
  refine (begun_any w).mono ?_
  rintro e w1 ⟨rfl, k1⟩
  have s1 := set_any p m c xs n a mm w1 (h.below k1) ha hm
  go_wp2_with fail
  refine s1.mono ?_
  rintro e w2 ⟨p2, n2, c2, ys, rfl, hi2, hm2, hb2⟩
  have k2 := bt k1 hb2
  clear s1
  by_cases e1 : setE xs n a mm false = 0
  · rw [e1]
    have hy := hm2.1 e1
    have s2 := clear_any p2 n2 c2 ys n a mm w2 hi2 ha hm
    rw [show setE ys n a mm true = 0 from back_set e1 hy] at s2
    go_wp2_with fail
    refine s2.mono ?_
    rintro e w2b ⟨p2b, n2b, c2b, zs, rfl, hi2b, hm2b, hb2b⟩
    have k2b := bt k2 hb2b
    have hzx : zs = xs := back_eq h.byte e1 hy (hm2b.1 rfl)
    subst hzx
    clear s2
    go_wp2_with fail
    refine (equal_any p2b p n2b c2b m c zs zs w2b hi2b (h.below k2b)).mono ?_
    rintro e w' ⟨rfl, hw'⟩
    have hw2 := hw'.symm
    subst hw2
    clear hw'
    rw [show (zs == zs) = true from by simp]
    have hck := check_any p2 n2 c2 ys n w2b (hi2.below hb2b)
    rw [chkE_ok (back_chk e1 hy)] at hck
    go_wp2_with fail
    refine hck.mono ?_
    rintro e w' ⟨rfl, j1, rfl⟩
    have k2c : Below w.heap.size w (w2b.drewN j1) := below_drewN k2b _
    have hcc := back_cnt e1 hy
    have hcy := count_any p2 n2 c2 ys n (w2b.drewN j1) ((hi2.below hb2b).drewN _)
    go_wp2_with fail
    refine hcy.mono ?_
    rintro e w' ⟨rfl, j2, rfl⟩
    have hcx := count_any p m c zs n (w2b.drewN (j1 + j2)) ((h.below k2b).drewN _)
    go_wp2_with fail
    refine hcx.mono ?_
    rintro e w' ⟨rfl, j3, rfl⟩
    have k2d : Below w.heap.size w (w2b.drewN (j1 + j2 + j3)) := below_drewN k2b _
    have hcl := cntF_le (bitL ys) (nOf ys n)
    have hnl := nOf_le ys n
    have hwr : IntKind.i64.wrap (((cntF (bitL zs) (nOf zs n) : Nat) : Int) - mm) = ((cntF (bitL ys) (nOf ys n) : Nat) : Int) := by rw [hcc, IntKind.wrap_i64]; omega
    obtain ⟨C, hC⟩ : ∃ C : Nat, C = cntF (bitL zs) (nOf zs n) := ⟨_, rfl⟩
    rw [← hC] at hwr ⊢
    generalize cntF (bitL ys) (nOf ys n) = C2 at *
    have hwr2 : wrap64 ((C : Int) - mm) = (C2 : Int) := by have := hwr; rw [IntKind.wrap_i64] at this; unfold wrap64; omega
    have heq : (C : Int) - mm = (C2 : Int) := by omega
    have hmm := (setE_zero e1).2.1
    have hmm0 : 0 ≤ mm := hmm.2.1
    have hCi : (C : Int) ≤ 2048 := by have := HC.out; omega
    have hC2 : (C2 : Int) ≤ 2048 := by omega
    clear hmm
    clear hcc hcl hnl e1 hck hcx hcy hC
    have s3 := clear_any p m c zs n a mm _ (h.below k2d) ha hm
    go_wp2_with fail
    refine s3.mono ?_
    rintro e w3 ⟨p3, n3, c3, us, rfl, hi3, hm3, hb3⟩
    have k3 := bt k2d hb3
    clear s3
    by_cases e3 : setE zs n a mm true = 0
    · rw [e3]
      have hu := hm3.1 e3
      have s4 := set_any p3 n3 c3 us n a mm w3 hi3 ha hm
      rw [show setE us n a mm false = 0 from back_set e3 hu] at s4
      go_wp2_with fail
      refine s4.mono ?_
      rintro e w4 ⟨p4, n4, c4, vs, rfl, hi4, hm4, hb4⟩
      have k4 := bt k3 hb4
      have hvx : vs = zs := back_eq h.byte e3 hu (hm4.1 rfl)
      subst hvx
      clear s4
      go_wp2_with fail
      refine (equal_any p4 p n4 c4 m c vs vs w4 hi4 (h.below k4)).mono ?_
      rintro e w' ⟨rfl, hw'⟩
      have hw2 := hw'.symm
      subst hw2
      clear hw'
      rw [show (vs == vs) = true from by simp]
      clear e3
      have R1 := Runs_any p m c vs n _ (h.below k4)
      go_wp2_with fail
      refine R1.mono ?_
      rintro e w5 ⟨Bs, Bn, p5, m5, c5, rfl, hR5, hb5⟩
      have k5 := bt k4 hb5
      have htl := told_any (nOf vs n) Bs Bn p5 m5 c5 vs 9999 (by decide) w5 hR5
      rw [HL.out] at htl
      go_wp2_with fail
      refine htl.mono ?_
      rintro e w6 ⟨v, rfl, ho, hb6⟩
      have k6 := bt k5 hb6
      obtain ⟨pv, cv, rfl⟩ := owns_slice ho
      clear htl R1
      go_wp2
      go_loopw [17, 96] (fun s i wr => ∃ k : Nat, k ≤ L.length ∧ i = .int .i64 k ∧ s = .int .i64 (sumP (L.take k) : Nat) ∧ Below w6.heap.size w6 wr) (fun _ i _ => L.length - (intOf i).toNat)
      case atStart => exact ⟨0, Nat.zero_le _, rfl, rfl, Below.refl _ _⟩
      case round =>
        obtain ⟨k, hk, rfl, rfl, hbw⟩ := hrel
        have hsl : sumP (L.take k) ≤ 2048 := by
          have h1 : sumP L = sumP (L.take k) + sumP (L.drop k) := by
            unfold sumP
            rw [← List.sum_append, ← List.map_append, List.take_append_drop]
          have := HC.out; have := HS.out; omega
        have hsi : ((sumP (L.take k) : Nat) : Int) ≤ 2048 := by omega
        clear hsl
        by_cases hlt : k < L.length
        · obtain ⟨g, cap, he, hgB, hat⟩ := row_at ho (by omega)
          have hgl : g < w6.heap.size := by cases he; exact block_lt_of_cell (hat k hlt).1
          cases he
          obtain ⟨c1, c2⟩ := hat k hlt
          replace c1 := (hbw.cell (p := ⟨g, k * 2, none⟩) hgl).trans c1
          replace c2 := (hbw.cell (p := ⟨g, k * 2 + 1, none⟩) hgl).trans c2
          have HT : Hid (sumP (L.take (k + 1)) = sumP (L.take k) + L[k].l) := sumP_take L k hlt
          have hxh := L[k].h
          have hxl : (L[k].l : Int) ≤ 2048 := by omega
          generalize L[k].l = xl at *
          generalize L[k].a = xa at *
          generalize sumP (L.take k) = S0 at *
          clear hat hxh
          go_wp2
          go_roundw
          case rel => exact ⟨k + 1, by omega, by go_num, by rw [HT.out]; exact val_int (by omega), bt hbw (below_alloc _ _)⟩
          case measure => simp [intOf]; omega
        · obtain rfl : k = L.length := by omega
          rw [List.take_length] at *
          have hct := count_any p m c vs n _ (h.below (bt k6 hbw))
          rw [← HS.out] at hct
          generalize sumP L = S0 at *
          go_wp2_with fail
          refine hct.mono ?_
          rintro e w7 ⟨rfl, j7, rfl⟩
          go_wp2
          go_ret
          exact ⟨ret_bool (by simp), below_drewN (bt k6 hbw) _⟩
    · have e3' : (setE zs n a mm true == 0) = false := by simpa using e3
      generalize setE zs n a mm true = er3 at *
      clear e3
      have R1 := Runs_any p m c zs n _ (h.below k3)
      go_wp2_with fail
      refine R1.mono ?_
      rintro e w5 ⟨Bs, Bn, p5, m5, c5, rfl, hR5, hb5⟩
      have k5 := bt k3 hb5
      have htl := told_any (nOf zs n) Bs Bn p5 m5 c5 zs 9999 (by decide) w5 hR5
      rw [HL.out] at htl
      go_wp2_with fail
      refine htl.mono ?_
      rintro e w6 ⟨v, rfl, ho, hb6⟩
      have k6 := bt k5 hb6
      obtain ⟨pv, cv, rfl⟩ := owns_slice ho
      clear htl R1
      go_wp2
      go_loopw [17, 96] (fun s i wr => ∃ k : Nat, k ≤ L.length ∧ i = .int .i64 k ∧ s = .int .i64 (sumP (L.take k) : Nat) ∧ Below w6.heap.size w6 wr) (fun _ i _ => L.length - (intOf i).toNat)
      case atStart => exact ⟨0, Nat.zero_le _, rfl, rfl, Below.refl _ _⟩
      case round =>
        obtain ⟨k, hk, rfl, rfl, hbw⟩ := hrel
        have hsl : sumP (L.take k) ≤ 2048 := by
          have h1 : sumP L = sumP (L.take k) + sumP (L.drop k) := by
            unfold sumP
            rw [← List.sum_append, ← List.map_append, List.take_append_drop]
          have := HC.out; have := HS.out; omega
        have hsi : ((sumP (L.take k) : Nat) : Int) ≤ 2048 := by omega
        clear hsl
        by_cases hlt : k < L.length
        · obtain ⟨g, cap, he, hgB, hat⟩ := row_at ho (by omega)
          have hgl : g < w6.heap.size := by cases he; exact block_lt_of_cell (hat k hlt).1
          cases he
          obtain ⟨c1, c2⟩ := hat k hlt
          replace c1 := (hbw.cell (p := ⟨g, k * 2, none⟩) hgl).trans c1
          replace c2 := (hbw.cell (p := ⟨g, k * 2 + 1, none⟩) hgl).trans c2
          have HT : Hid (sumP (L.take (k + 1)) = sumP (L.take k) + L[k].l) := sumP_take L k hlt
          have hxh := L[k].h
          have hxl : (L[k].l : Int) ≤ 2048 := by omega
          generalize L[k].l = xl at *
          generalize L[k].a = xa at *
          generalize sumP (L.take k) = S0 at *
          clear hat hxh
          go_wp2
          go_roundw
          case rel => exact ⟨k + 1, by omega, by go_num, by rw [HT.out]; exact val_int (by omega), bt hbw (below_alloc _ _)⟩
          case measure => simp [intOf]; omega
        · obtain rfl : k = L.length := by omega
          rw [List.take_length] at *
          have hct := count_any p m c zs n _ (h.below (bt k6 hbw))
          rw [← HS.out] at hct
          generalize sumP L = S0 at *
          go_wp2_with fail
          refine hct.mono ?_
          rintro e w7 ⟨rfl, j7, rfl⟩
          go_wp2
          go_ret
          exact ⟨ret_bool (by simp), below_drewN (bt k6 hbw) _⟩
  · have e1' : (setE xs n a mm false == 0) = false := by simpa using e1
    generalize setE xs n a mm false = er1 at *
    clear e1
    have s3 := clear_any p m c xs n a mm _ (h.below k2) ha hm
    go_wp2_with fail
    refine s3.mono ?_
    rintro e w3 ⟨p3, n3, c3, us, rfl, hi3, hm3, hb3⟩
    have k3 := bt k2 hb3
    clear s3
    by_cases e3 : setE xs n a mm true = 0
    · rw [e3]
      have hu := hm3.1 e3
      have s4 := set_any p3 n3 c3 us n a mm w3 hi3 ha hm
      rw [show setE us n a mm false = 0 from back_set e3 hu] at s4
      go_wp2_with fail
      refine s4.mono ?_
      rintro e w4 ⟨p4, n4, c4, vs, rfl, hi4, hm4, hb4⟩
      have k4 := bt k3 hb4
      have hvx : vs = xs := back_eq h.byte e3 hu (hm4.1 rfl)
      subst hvx
      clear s4
      go_wp2_with fail
      refine (equal_any p4 p n4 c4 m c vs vs w4 hi4 (h.below k4)).mono ?_
      rintro e w' ⟨rfl, hw'⟩
      have hw2 := hw'.symm
      subst hw2
      clear hw'
      rw [show (vs == vs) = true from by simp]
      clear e3
      have R1 := Runs_any p m c vs n _ (h.below k4)
      go_wp2_with fail
      refine R1.mono ?_
      rintro e w5 ⟨Bs, Bn, p5, m5, c5, rfl, hR5, hb5⟩
      have k5 := bt k4 hb5
      have htl := told_any (nOf vs n) Bs Bn p5 m5 c5 vs 9999 (by decide) w5 hR5
      rw [HL.out] at htl
      go_wp2_with fail
      refine htl.mono ?_
      rintro e w6 ⟨v, rfl, ho, hb6⟩
      have k6 := bt k5 hb6
      obtain ⟨pv, cv, rfl⟩ := owns_slice ho
      clear htl R1
      go_wp2
      go_loopw [17, 96] (fun s i wr => ∃ k : Nat, k ≤ L.length ∧ i = .int .i64 k ∧ s = .int .i64 (sumP (L.take k) : Nat) ∧ Below w6.heap.size w6 wr) (fun _ i _ => L.length - (intOf i).toNat)
      case atStart => exact ⟨0, Nat.zero_le _, rfl, rfl, Below.refl _ _⟩
      case round =>
        obtain ⟨k, hk, rfl, rfl, hbw⟩ := hrel
        have hsl : sumP (L.take k) ≤ 2048 := by
          have h1 : sumP L = sumP (L.take k) + sumP (L.drop k) := by
            unfold sumP
            rw [← List.sum_append, ← List.map_append, List.take_append_drop]
          have := HC.out; have := HS.out; omega
        have hsi : ((sumP (L.take k) : Nat) : Int) ≤ 2048 := by omega
        clear hsl
        by_cases hlt : k < L.length
        · obtain ⟨g, cap, he, hgB, hat⟩ := row_at ho (by omega)
          have hgl : g < w6.heap.size := by cases he; exact block_lt_of_cell (hat k hlt).1
          cases he
          obtain ⟨c1, c2⟩ := hat k hlt
          replace c1 := (hbw.cell (p := ⟨g, k * 2, none⟩) hgl).trans c1
          replace c2 := (hbw.cell (p := ⟨g, k * 2 + 1, none⟩) hgl).trans c2
          have HT : Hid (sumP (L.take (k + 1)) = sumP (L.take k) + L[k].l) := sumP_take L k hlt
          have hxh := L[k].h
          have hxl : (L[k].l : Int) ≤ 2048 := by omega
          generalize L[k].l = xl at *
          generalize L[k].a = xa at *
          generalize sumP (L.take k) = S0 at *
          clear hat hxh
          go_wp2
          go_roundw
          case rel => exact ⟨k + 1, by omega, by go_num, by rw [HT.out]; exact val_int (by omega), bt hbw (below_alloc _ _)⟩
          case measure => simp [intOf]; omega
        · obtain rfl : k = L.length := by omega
          rw [List.take_length] at *
          have hct := count_any p m c vs n _ (h.below (bt k6 hbw))
          rw [← HS.out] at hct
          generalize sumP L = S0 at *
          go_wp2_with fail
          refine hct.mono ?_
          rintro e w7 ⟨rfl, j7, rfl⟩
          go_wp2
          go_ret
          exact ⟨ret_bool (by simp), below_drewN (bt k6 hbw) _⟩
    · have e3' : (setE xs n a mm true == 0) = false := by simpa using e3
      generalize setE xs n a mm true = er3 at *
      clear e3
      have R1 := Runs_any p m c xs n _ (h.below k3)
      go_wp2_with fail
      refine R1.mono ?_
      rintro e w5 ⟨Bs, Bn, p5, m5, c5, rfl, hR5, hb5⟩
      have k5 := bt k3 hb5
      have htl := told_any (nOf xs n) Bs Bn p5 m5 c5 xs 9999 (by decide) w5 hR5
      rw [HL.out] at htl
      go_wp2_with fail
      refine htl.mono ?_
      rintro e w6 ⟨v, rfl, ho, hb6⟩
      have k6 := bt k5 hb6
      obtain ⟨pv, cv, rfl⟩ := owns_slice ho
      clear htl R1
      go_wp2
      go_loopw [17, 96] (fun s i wr => ∃ k : Nat, k ≤ L.length ∧ i = .int .i64 k ∧ s = .int .i64 (sumP (L.take k) : Nat) ∧ Below w6.heap.size w6 wr) (fun _ i _ => L.length - (intOf i).toNat)
      case atStart => exact ⟨0, Nat.zero_le _, rfl, rfl, Below.refl _ _⟩
      case round =>
        obtain ⟨k, hk, rfl, rfl, hbw⟩ := hrel
        have hsl : sumP (L.take k) ≤ 2048 := by
          have h1 : sumP L = sumP (L.take k) + sumP (L.drop k) := by
            unfold sumP
            rw [← List.sum_append, ← List.map_append, List.take_append_drop]
          have := HC.out; have := HS.out; omega
        have hsi : ((sumP (L.take k) : Nat) : Int) ≤ 2048 := by omega
        clear hsl
        by_cases hlt : k < L.length
        · obtain ⟨g, cap, he, hgB, hat⟩ := row_at ho (by omega)
          have hgl : g < w6.heap.size := by cases he; exact block_lt_of_cell (hat k hlt).1
          cases he
          obtain ⟨c1, c2⟩ := hat k hlt
          replace c1 := (hbw.cell (p := ⟨g, k * 2, none⟩) hgl).trans c1
          replace c2 := (hbw.cell (p := ⟨g, k * 2 + 1, none⟩) hgl).trans c2
          have HT : Hid (sumP (L.take (k + 1)) = sumP (L.take k) + L[k].l) := sumP_take L k hlt
          have hxh := L[k].h
          have hxl : (L[k].l : Int) ≤ 2048 := by omega
          generalize L[k].l = xl at *
          generalize L[k].a = xa at *
          generalize sumP (L.take k) = S0 at *
          clear hat hxh
          go_wp2
          go_roundw
          case rel => exact ⟨k + 1, by omega, by go_num, by rw [HT.out]; exact val_int (by omega), bt hbw (below_alloc _ _)⟩
          case measure => simp [intOf]; omega
        · obtain rfl : k = L.length := by omega
          rw [List.take_length] at *
          have hct := count_any p m c xs n _ (h.below (bt k6 hbw))
          rw [← HS.out] at hct
          generalize sumP L = S0 at *
          go_wp2_with fail
          refine hct.mono ?_
          rintro e w7 ⟨rfl, j7, rfl⟩
          go_wp2
          go_ret
          exact ⟨ret_bool (by simp), below_drewN (bt k6 hbw) _⟩
end Go.Proofs.Ythpbeppfiinooaa
