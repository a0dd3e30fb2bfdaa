/-
  LayoutBack returns true: case by case.
-/
import Derived.Test.YtbimcdaplnmjdabLyLive
import Derived.Test.YtbimcdaplnmjdabLyBackP
import Derived.Test.YtbimcdaplnmjdabLyEqD
namespace Go.Proofs.Ytbimcdaplnmjdab
open Go.RowKit
set_option linter.unusedVariables false in
set_option linter.unusedSimpArgs false in
set_option maxHeartbeats 4000000 in
set_option maxRecDepth 100000 in
theorem back_yyyy (b j o : Int) (cl : Bool) (m : Int) (a : Option Addr) (nl cl' : Nat) (l : List Dsc) (p : Option Addr) (n c : Nat) (xs sl el : List Nat) (dl : List Dsc) (se ee de dd y0 y1 y2 : Int) (y3 : Bool) (y4 : Int) (w : World) (hx : In w p n c xs) (hl : InD w a nl cl' l)
    (hen : ∀ w, Calls Try.prog 5 #[.agg #[.int .i64 b, .int .i64 j, .int .i64 o, .bool cl, .int .i64 m]] w fun e w' => ∃ p n c, e = .returned (.tuple #[.slice p n c, .int .i64 se]) ∧ In w' p n c sl ∧ Below w.heap.size w w')
    (hds : se = 0 → ∀ w p c, In w p 256 c sl → Calls Try.prog 6 #[.slice p 256 c] w fun e w' => e = .returned (.tuple #[.agg #[.int .i64 b, .int .i64 j, .int .i64 o, .bool cl, .int .i64 m], .int .i64 0]) ∧ Below w.heap.size w w')
    (hee : ∀ w, InD w a nl cl' l → Calls Try.prog 7 #[.slice a nl cl'] w fun e w' => ∃ p' n' c', e = .returned (.tuple #[.slice p' n' c', .int .i64 ee]) ∧ In w' p' n' c' el ∧ Below w.heap.size w w')
    (hdd1 : ee = 0 → ∀ w p c, In w p 256 c el → Calls Try.prog 8 #[.slice p 256 c, .int .i64 (nl : Int)] w fun e w' => ∃ p' n' c', e = .returned (.tuple #[.slice p' n' c', .int .i64 0]) ∧ InD w' p' n' c' l ∧ Below w.heap.size w w')
    (hdx : ∀ w, In w p n c xs → Calls Try.prog 6 #[.slice p n c] w fun e w' => e = .returned (.tuple #[.agg #[.int .i64 y0, .int .i64 y1, .int .i64 y2, .bool y3, .int .i64 y4], .int .i64 de]) ∧ Below w.heap.size w w')
    (hex : de = 0 → ∀ w, Calls Try.prog 5 #[.agg #[.int .i64 y0, .int .i64 y1, .int .i64 y2, .bool y3, .int .i64 y4]] w fun e w' => ∃ p n c, e = .returned (.tuple #[.slice p n c, .int .i64 0]) ∧ In w' p n c xs ∧ Below w.heap.size w w')
    (hdl : ∀ w, In w p n c xs → Calls Try.prog 8 #[.slice p n c, .int .i64 (nl : Int)] w fun e w' => ∃ p' n' c', e = .returned (.tuple #[.slice p' n' c', .int .i64 dd]) ∧ InD w' p' n' c' dl ∧ Below w.heap.size w w')
    (hel : dd = 0 → ∀ w p n c, InD w p n c dl → Calls Try.prog 7 #[.slice p n c] w fun e w' => ∃ p' n' c', e = .returned (.tuple #[.slice p' n' c', .int .i64 0]) ∧ In w' p' n' c' xs ∧ Below w.heap.size w w')
    (SL : se = 0 → Hid (sl.length = 256)) (EL : ee = 0 → Hid (el.length = 256)) (hse : se = 0) (hee0 : ee = 0) (hde0 : de = 0) (hdd0 : dd = 0) : Calls Try.prog 3 #[.agg #[.int .i64 b, .int .i64 j, .int .i64 o, .bool cl, .int .i64 m], .slice a nl cl', .slice p n c] w fun e w' => e = .returned (.bool true) ∧ Below w.heap.size w w' := by
  have HL : Hid (l.length = nl) := hl.len
  have hb0 := below_alloc w (.cells #[.int .i64 b, .int .i64 j, .int .i64 o, .bool cl, .int .i64 m] 25)
  have b0 := Blk.new' w 25 #[.int .i64 b, .int .i64 j, .int .i64 o, .bool cl, .int .i64 m]
  have hx0 := hx.below hb0
  have hl0 := hl.below hb0
  have HX := fun W (h : Below w.heap.size w W) => hx.below h
  have HI := fun W (h : Below w.heap.size w W) => hl.below h
  subst hse
  replace hds := hds rfl
  replace SL := SL rfl
  subst hee0
  replace hdd1 := hdd1 rfl
  replace EL := EL rfl
  subst hde0
  replace hex := hex rfl
  subst hdd0
  replace hel := hel rfl
  go_enter Try.func3, Try.ntmps3
  go_wp2_with fail
  refine (live_any _).mono ?_
  rintro e w1 ⟨rfl, hb1⟩
  have k1 := b0.kept hb1
  have B1 := bt hb0 hb1
  have hx_1 := hx0.below hb1
  have hl_1 := hl0.below hb1
  have ca0 := k1.cell' (i := 0) rfl
  have ca1 := k1.cell' (i := 1) rfl
  have ca2 := k1.cell' (i := 2) rfl
  have ca3 := k1.cell' (i := 3) rfl
  have ca4 := k1.cell' (i := 4) rfl
  go_wp2_with fail
  refine (hen _).mono ?_
  rintro e w2 ⟨p2, n2, c2, rfl, hin2, hb2⟩
  have k2 := k1.kept hb2
  have B2 := bt B1 hb2
  have hx_2 := hx_1.below hb2
  have hl_2 := hl_1.below hb2
  have hn2 := hin2.len
  rw [SL.out] at hn2
  subst hn2
  go_wp2_with fail
  refine (hds _ p2 c2 hin2).mono ?_
  rintro e w3 ⟨rfl, hb3⟩
  have k3 := k2.kept hb3
  have B3 := bt B2 hb3
  have hx_3 := hx_2.below hb3
  have hl_3 := hl_2.below hb3
  have k3a := k3.alloc (.cells #[.int .i64 b, .int .i64 j, .int .i64 o, .bool cl, .int .i64 m] 25)
  have B3a := bt B3 (below_alloc w3 (.cells #[.int .i64 b, .int .i64 j, .int .i64 o, .bool cl, .int .i64 m] 25))
  have hx_3a := hx_3.below (below_alloc w3 (.cells #[.int .i64 b, .int .i64 j, .int .i64 o, .bool cl, .int .i64 m] 25))
  have hl_3a := hl_3.below (below_alloc w3 (.cells #[.int .i64 b, .int .i64 j, .int .i64 o, .bool cl, .int .i64 m] 25))
  have z3 := Blk.new' w3 25 #[.int .i64 b, .int .i64 j, .int .i64 o, .bool cl, .int .i64 m]
  have cb0 := z3.cell' (i := 0) rfl
  have cb1 := z3.cell' (i := 1) rfl
  have cb2 := z3.cell' (i := 2) rfl
  have cb3 := z3.cell' (i := 3) rfl
  have cb4 := z3.cell' (i := 4) rfl
  have cc0 := k3a.cell' (i := 0) rfl
  have cc1 := k3a.cell' (i := 1) rfl
  have cc2 := k3a.cell' (i := 2) rfl
  have cc3 := k3a.cell' (i := 3) rfl
  have cc4 := k3a.cell' (i := 4) rfl
  have hlt3 := z3.lt
  go_wp2_with fail
  refine (hee _ (HI _ B3a)).mono ?_
  rintro e w4 ⟨p4, n4, c4, rfl, hin4, hb4⟩
  have k4 := k3a.kept hb4
  have B4 := bt B3a hb4
  have hx_4 := hx_3a.below hb4
  have hl_4 := hl_3a.below hb4
  have hn4 := hin4.len
  rw [EL.out] at hn4
  subst hn4
  go_wp2_with fail
  refine (hdd1 _ p4 c4 hin4).mono ?_
  rintro e w5 ⟨p5, n5, c5, rfl, hin5, hb5⟩
  have k5 := k4.kept hb5
  have B5 := bt B4 hb5
  have hx_5 := hx_4.below hb5
  have hl_5 := hl_4.below hb5
  have hm5 := hin5.len
  rw [HL.out] at hm5
  subst hm5
  go_wp2_with fail
  refine (equalD_yes p5 a nl c5 cl' l _ hin5 hl_5).mono ?_
  rintro e w6 ⟨rfl, hb6⟩
  have k6 := k5.kept hb6
  have B6 := bt B5 hb6
  have hx_6 := hx_5.below hb6
  have hl_6 := hl_5.below hb6
  go_wp2_with fail
  refine (hdx _ (HX _ B6)).mono ?_
  rintro e w7 ⟨rfl, hb7⟩
  have k7 := k6.kept hb7
  have B7 := bt B6 hb7
  have hx_7 := hx_6.below hb7
  have hl_7 := hl_6.below hb7
  have k7a := k7.alloc (.cells #[.int .i64 y0, .int .i64 y1, .int .i64 y2, .bool y3, .int .i64 y4] 25)
  have B7a := bt B7 (below_alloc w7 (.cells #[.int .i64 y0, .int .i64 y1, .int .i64 y2, .bool y3, .int .i64 y4] 25))
  have hx_7a := hx_7.below (below_alloc w7 (.cells #[.int .i64 y0, .int .i64 y1, .int .i64 y2, .bool y3, .int .i64 y4] 25))
  have hl_7a := hl_7.below (below_alloc w7 (.cells #[.int .i64 y0, .int .i64 y1, .int .i64 y2, .bool y3, .int .i64 y4] 25))
  have z7 := Blk.new' w7 25 #[.int .i64 y0, .int .i64 y1, .int .i64 y2, .bool y3, .int .i64 y4]
  have cd0 := z7.cell' (i := 0) rfl
  have cd1 := z7.cell' (i := 1) rfl
  have cd2 := z7.cell' (i := 2) rfl
  have cd3 := z7.cell' (i := 3) rfl
  have cd4 := z7.cell' (i := 4) rfl
  go_wp2_with fail
  refine (hex _).mono ?_
  rintro e w8 ⟨p8, n8, c8, rfl, hin8, hb8⟩
  have k8 := k7a.kept hb8
  have B8 := bt B7a hb8
  have hx_8 := hx_7a.below hb8
  have hl_8 := hl_7a.below hb8
  go_wp2_with fail
  refine (equal_any p8 p n8 c8 n c _ xs _ hin8 hx_8).mono ?_
  rintro e w' ⟨rfl, hw'⟩
  have hw2 := hw'.symm; subst hw2; clear hw'
  rw [beq_self_eq_true]
  go_wp2_with fail
  refine (hdl _ (HX _ B8)).mono ?_
  rintro e w10 ⟨p10, n10, c10, rfl, hin10, hb10⟩
  have k10 := k8.kept hb10
  have B10 := bt B8 hb10
  have hx_10 := hx_8.below hb10
  have hl_10 := hl_8.below hb10
  go_wp2_with fail
  refine (hel _ p10 n10 c10 hin10).mono ?_
  rintro e w11 ⟨p11, n11, c11, rfl, hin11, hb11⟩
  have k11 := k10.kept hb11
  have B11 := bt B10 hb11
  have hx_11 := hx_10.below hb11
  have hl_11 := hl_10.below hb11
  go_wp2_with fail
  refine (equal_any p11 p n11 c11 n c _ xs _ hin11 hx_11).mono ?_
  rintro e w' ⟨rfl, hw'⟩
  have hw2 := hw'.symm; subst hw2; clear hw'
  rw [beq_self_eq_true]
  go_wp2
  go_ret
  exact ⟨rfl, B11⟩
set_option linter.unusedVariables false in
set_option linter.unusedSimpArgs false in
set_option maxHeartbeats 4000000 in
set_option maxRecDepth 100000 in
theorem back_yyyn (b j o : Int) (cl : Bool) (m : Int) (a : Option Addr) (nl cl' : Nat) (l : List Dsc) (p : Option Addr) (n c : Nat) (xs sl el : List Nat) (dl : List Dsc) (se ee de dd y0 y1 y2 : Int) (y3 : Bool) (y4 : Int) (w : World) (hx : In w p n c xs) (hl : InD w a nl cl' l)
    (hen : ∀ w, Calls Try.prog 5 #[.agg #[.int .i64 b, .int .i64 j, .int .i64 o, .bool cl, .int .i64 m]] w fun e w' => ∃ p n c, e = .returned (.tuple #[.slice p n c, .int .i64 se]) ∧ In w' p n c sl ∧ Below w.heap.size w w')
    (hds : se = 0 → ∀ w p c, In w p 256 c sl → Calls Try.prog 6 #[.slice p 256 c] w fun e w' => e = .returned (.tuple #[.agg #[.int .i64 b, .int .i64 j, .int .i64 o, .bool cl, .int .i64 m], .int .i64 0]) ∧ Below w.heap.size w w')
    (hee : ∀ w, InD w a nl cl' l → Calls Try.prog 7 #[.slice a nl cl'] w fun e w' => ∃ p' n' c', e = .returned (.tuple #[.slice p' n' c', .int .i64 ee]) ∧ In w' p' n' c' el ∧ Below w.heap.size w w')
    (hdd1 : ee = 0 → ∀ w p c, In w p 256 c el → Calls Try.prog 8 #[.slice p 256 c, .int .i64 (nl : Int)] w fun e w' => ∃ p' n' c', e = .returned (.tuple #[.slice p' n' c', .int .i64 0]) ∧ InD w' p' n' c' l ∧ Below w.heap.size w w')
    (hdx : ∀ w, In w p n c xs → Calls Try.prog 6 #[.slice p n c] w fun e w' => e = .returned (.tuple #[.agg #[.int .i64 y0, .int .i64 y1, .int .i64 y2, .bool y3, .int .i64 y4], .int .i64 de]) ∧ Below w.heap.size w w')
    (hex : de = 0 → ∀ w, Calls Try.prog 5 #[.agg #[.int .i64 y0, .int .i64 y1, .int .i64 y2, .bool y3, .int .i64 y4]] w fun e w' => ∃ p n c, e = .returned (.tuple #[.slice p n c, .int .i64 0]) ∧ In w' p n c xs ∧ Below w.heap.size w w')
    (hdl : ∀ w, In w p n c xs → Calls Try.prog 8 #[.slice p n c, .int .i64 (nl : Int)] w fun e w' => ∃ p' n' c', e = .returned (.tuple #[.slice p' n' c', .int .i64 dd]) ∧ InD w' p' n' c' dl ∧ Below w.heap.size w w')
    (hel : dd = 0 → ∀ w p n c, InD w p n c dl → Calls Try.prog 7 #[.slice p n c] w fun e w' => ∃ p' n' c', e = .returned (.tuple #[.slice p' n' c', .int .i64 0]) ∧ In w' p' n' c' xs ∧ Below w.heap.size w w')
    (SL : se = 0 → Hid (sl.length = 256)) (EL : ee = 0 → Hid (el.length = 256)) (hse : se = 0) (hee0 : ee = 0) (hde0 : de = 0) (hdd0 : (dd == 0) = false) : Calls Try.prog 3 #[.agg #[.int .i64 b, .int .i64 j, .int .i64 o, .bool cl, .int .i64 m], .slice a nl cl', .slice p n c] w fun e w' => e = .returned (.bool true) ∧ Below w.heap.size w w' := by
  have HL : Hid (l.length = nl) := hl.len
  have hb0 := below_alloc w (.cells #[.int .i64 b, .int .i64 j, .int .i64 o, .bool cl, .int .i64 m] 25)
  have b0 := Blk.new' w 25 #[.int .i64 b, .int .i64 j, .int .i64 o, .bool cl, .int .i64 m]
  have hx0 := hx.below hb0
  have hl0 := hl.below hb0
  have HX := fun W (h : Below w.heap.size w W) => hx.below h
  have HI := fun W (h : Below w.heap.size w W) => hl.below h
  subst hse
  replace hds := hds rfl
  replace SL := SL rfl
  subst hee0
  replace hdd1 := hdd1 rfl
  replace EL := EL rfl
  subst hde0
  replace hex := hex rfl
  clear hel
  go_enter Try.func3, Try.ntmps3
  go_wp2_with fail
  refine (live_any _).mono ?_
  rintro e w1 ⟨rfl, hb1⟩
  have k1 := b0.kept hb1
  have B1 := bt hb0 hb1
  have hx_1 := hx0.below hb1
  have hl_1 := hl0.below hb1
  have ca0 := k1.cell' (i := 0) rfl
  have ca1 := k1.cell' (i := 1) rfl
  have ca2 := k1.cell' (i := 2) rfl
  have ca3 := k1.cell' (i := 3) rfl
  have ca4 := k1.cell' (i := 4) rfl
  go_wp2_with fail
  refine (hen _).mono ?_
  rintro e w2 ⟨p2, n2, c2, rfl, hin2, hb2⟩
  have k2 := k1.kept hb2
  have B2 := bt B1 hb2
  have hx_2 := hx_1.below hb2
  have hl_2 := hl_1.below hb2
  have hn2 := hin2.len
  rw [SL.out] at hn2
  subst hn2
  go_wp2_with fail
  refine (hds _ p2 c2 hin2).mono ?_
  rintro e w3 ⟨rfl, hb3⟩
  have k3 := k2.kept hb3
  have B3 := bt B2 hb3
  have hx_3 := hx_2.below hb3
  have hl_3 := hl_2.below hb3
  have k3a := k3.alloc (.cells #[.int .i64 b, .int .i64 j, .int .i64 o, .bool cl, .int .i64 m] 25)
  have B3a := bt B3 (below_alloc w3 (.cells #[.int .i64 b, .int .i64 j, .int .i64 o, .bool cl, .int .i64 m] 25))
  have hx_3a := hx_3.below (below_alloc w3 (.cells #[.int .i64 b, .int .i64 j, .int .i64 o, .bool cl, .int .i64 m] 25))
  have hl_3a := hl_3.below (below_alloc w3 (.cells #[.int .i64 b, .int .i64 j, .int .i64 o, .bool cl, .int .i64 m] 25))
  have z3 := Blk.new' w3 25 #[.int .i64 b, .int .i64 j, .int .i64 o, .bool cl, .int .i64 m]
  have cb0 := z3.cell' (i := 0) rfl
  have cb1 := z3.cell' (i := 1) rfl
  have cb2 := z3.cell' (i := 2) rfl
  have cb3 := z3.cell' (i := 3) rfl
  have cb4 := z3.cell' (i := 4) rfl
  have cc0 := k3a.cell' (i := 0) rfl
  have cc1 := k3a.cell' (i := 1) rfl
  have cc2 := k3a.cell' (i := 2) rfl
  have cc3 := k3a.cell' (i := 3) rfl
  have cc4 := k3a.cell' (i := 4) rfl
  have hlt3 := z3.lt
  go_wp2_with fail
  refine (hee _ (HI _ B3a)).mono ?_
  rintro e w4 ⟨p4, n4, c4, rfl, hin4, hb4⟩
  have k4 := k3a.kept hb4
  have B4 := bt B3a hb4
  have hx_4 := hx_3a.below hb4
  have hl_4 := hl_3a.below hb4
  have hn4 := hin4.len
  rw [EL.out] at hn4
  subst hn4
  go_wp2_with fail
  refine (hdd1 _ p4 c4 hin4).mono ?_
  rintro e w5 ⟨p5, n5, c5, rfl, hin5, hb5⟩
  have k5 := k4.kept hb5
  have B5 := bt B4 hb5
  have hx_5 := hx_4.below hb5
  have hl_5 := hl_4.below hb5
  have hm5 := hin5.len
  rw [HL.out] at hm5
  subst hm5
  go_wp2_with fail
  refine (equalD_yes p5 a nl c5 cl' l _ hin5 hl_5).mono ?_
  rintro e w6 ⟨rfl, hb6⟩
  have k6 := k5.kept hb6
  have B6 := bt B5 hb6
  have hx_6 := hx_5.below hb6
  have hl_6 := hl_5.below hb6
  go_wp2_with fail
  refine (hdx _ (HX _ B6)).mono ?_
  rintro e w7 ⟨rfl, hb7⟩
  have k7 := k6.kept hb7
  have B7 := bt B6 hb7
  have hx_7 := hx_6.below hb7
  have hl_7 := hl_6.below hb7
  have k7a := k7.alloc (.cells #[.int .i64 y0, .int .i64 y1, .int .i64 y2, .bool y3, .int .i64 y4] 25)
  have B7a := bt B7 (below_alloc w7 (.cells #[.int .i64 y0, .int .i64 y1, .int .i64 y2, .bool y3, .int .i64 y4] 25))
  have hx_7a := hx_7.below (below_alloc w7 (.cells #[.int .i64 y0, .int .i64 y1, .int .i64 y2, .bool y3, .int .i64 y4] 25))
  have hl_7a := hl_7.below (below_alloc w7 (.cells #[.int .i64 y0, .int .i64 y1, .int .i64 y2, .bool y3, .int .i64 y4] 25))
  have z7 := Blk.new' w7 25 #[.int .i64 y0, .int .i64 y1, .int .i64 y2, .bool y3, .int .i64 y4]
  have cd0 := z7.cell' (i := 0) rfl
  have cd1 := z7.cell' (i := 1) rfl
  have cd2 := z7.cell' (i := 2) rfl
  have cd3 := z7.cell' (i := 3) rfl
  have cd4 := z7.cell' (i := 4) rfl
  go_wp2_with fail
  refine (hex _).mono ?_
  rintro e w8 ⟨p8, n8, c8, rfl, hin8, hb8⟩
  have k8 := k7a.kept hb8
  have B8 := bt B7a hb8
  have hx_8 := hx_7a.below hb8
  have hl_8 := hl_7a.below hb8
  go_wp2_with fail
  refine (equal_any p8 p n8 c8 n c _ xs _ hin8 hx_8).mono ?_
  rintro e w' ⟨rfl, hw'⟩
  have hw2 := hw'.symm; subst hw2; clear hw'
  rw [beq_self_eq_true]
  go_wp2_with fail
  refine (hdl _ (HX _ B8)).mono ?_
  rintro e w10 ⟨p10, n10, c10, rfl, hin10, hb10⟩
  have k10 := k8.kept hb10
  have B10 := bt B8 hb10
  have hx_10 := hx_8.below hb10
  have hl_10 := hl_8.below hb10
  go_wp2
  go_ret
  exact ⟨rfl, B10⟩
set_option linter.unusedVariables false in
set_option linter.unusedSimpArgs false in
set_option maxHeartbeats 4000000 in
set_option maxRecDepth 100000 in
theorem back_yyny (b j o : Int) (cl : Bool) (m : Int) (a : Option Addr) (nl cl' : Nat) (l : List Dsc) (p : Option Addr) (n c : Nat) (xs sl el : List Nat) (dl : List Dsc) (se ee de dd y0 y1 y2 : Int) (y3 : Bool) (y4 : Int) (w : World) (hx : In w p n c xs) (hl : InD w a nl cl' l)
    (hen : ∀ w, Calls Try.prog 5 #[.agg #[.int .i64 b, .int .i64 j, .int .i64 o, .bool cl, .int .i64 m]] w fun e w' => ∃ p n c, e = .returned (.tuple #[.slice p n c, .int .i64 se]) ∧ In w' p n c sl ∧ Below w.heap.size w w')
    (hds : se = 0 → ∀ w p c, In w p 256 c sl → Calls Try.prog 6 #[.slice p 256 c] w fun e w' => e = .returned (.tuple #[.agg #[.int .i64 b, .int .i64 j, .int .i64 o, .bool cl, .int .i64 m], .int .i64 0]) ∧ Below w.heap.size w w')
    (hee : ∀ w, InD w a nl cl' l → Calls Try.prog 7 #[.slice a nl cl'] w fun e w' => ∃ p' n' c', e = .returned (.tuple #[.slice p' n' c', .int .i64 ee]) ∧ In w' p' n' c' el ∧ Below w.heap.size w w')
    (hdd1 : ee = 0 → ∀ w p c, In w p 256 c el → Calls Try.prog 8 #[.slice p 256 c, .int .i64 (nl : Int)] w fun e w' => ∃ p' n' c', e = .returned (.tuple #[.slice p' n' c', .int .i64 0]) ∧ InD w' p' n' c' l ∧ Below w.heap.size w w')
    (hdx : ∀ w, In w p n c xs → Calls Try.prog 6 #[.slice p n c] w fun e w' => e = .returned (.tuple #[.agg #[.int .i64 y0, .int .i64 y1, .int .i64 y2, .bool y3, .int .i64 y4], .int .i64 de]) ∧ Below w.heap.size w w')
    (hex : de = 0 → ∀ w, Calls Try.prog 5 #[.agg #[.int .i64 y0, .int .i64 y1, .int .i64 y2, .bool y3, .int .i64 y4]] w fun e w' => ∃ p n c, e = .returned (.tuple #[.slice p n c, .int .i64 0]) ∧ In w' p n c xs ∧ Below w.heap.size w w')
    (hdl : ∀ w, In w p n c xs → Calls Try.prog 8 #[.slice p n c, .int .i64 (nl : Int)] w fun e w' => ∃ p' n' c', e = .returned (.tuple #[.slice p' n' c', .int .i64 dd]) ∧ InD w' p' n' c' dl ∧ Below w.heap.size w w')
    (hel : dd = 0 → ∀ w p n c, InD w p n c dl → Calls Try.prog 7 #[.slice p n c] w fun e w' => ∃ p' n' c', e = .returned (.tuple #[.slice p' n' c', .int .i64 0]) ∧ In w' p' n' c' xs ∧ Below w.heap.size w w')
    (SL : se = 0 → Hid (sl.length = 256)) (EL : ee = 0 → Hid (el.length = 256)) (hse : se = 0) (hee0 : ee = 0) (hde0 : (de == 0) = false) (hdd0 : dd = 0) : Calls Try.prog 3 #[.agg #[.int .i64 b, .int .i64 j, .int .i64 o, .bool cl, .int .i64 m], .slice a nl cl', .slice p n c] w fun e w' => e = .returned (.bool true) ∧ Below w.heap.size w w' := by
  have HL : Hid (l.length = nl) := hl.len
  have hb0 := below_alloc w (.cells #[.int .i64 b, .int .i64 j, .int .i64 o, .bool cl, .int .i64 m] 25)
  have b0 := Blk.new' w 25 #[.int .i64 b, .int .i64 j, .int .i64 o, .bool cl, .int .i64 m]
  have hx0 := hx.below hb0
  have hl0 := hl.below hb0
  have HX := fun W (h : Below w.heap.size w W) => hx.below h
  have HI := fun W (h : Below w.heap.size w W) => hl.below h
  subst hse
  replace hds := hds rfl
  replace SL := SL rfl
  subst hee0
  replace hdd1 := hdd1 rfl
  replace EL := EL rfl
  clear hex
  subst hdd0
  replace hel := hel rfl
  go_enter Try.func3, Try.ntmps3
  go_wp2_with fail
  refine (live_any _).mono ?_
  rintro e w1 ⟨rfl, hb1⟩
  have k1 := b0.kept hb1
  have B1 := bt hb0 hb1
  have hx_1 := hx0.below hb1
  have hl_1 := hl0.below hb1
  have ca0 := k1.cell' (i := 0) rfl
  have ca1 := k1.cell' (i := 1) rfl
  have ca2 := k1.cell' (i := 2) rfl
  have ca3 := k1.cell' (i := 3) rfl
  have ca4 := k1.cell' (i := 4) rfl
  go_wp2_with fail
  refine (hen _).mono ?_
  rintro e w2 ⟨p2, n2, c2, rfl, hin2, hb2⟩
  have k2 := k1.kept hb2
  have B2 := bt B1 hb2
  have hx_2 := hx_1.below hb2
  have hl_2 := hl_1.below hb2
  have hn2 := hin2.len
  rw [SL.out] at hn2
  subst hn2
  go_wp2_with fail
  refine (hds _ p2 c2 hin2).mono ?_
  rintro e w3 ⟨rfl, hb3⟩
  have k3 := k2.kept hb3
  have B3 := bt B2 hb3
  have hx_3 := hx_2.below hb3
  have hl_3 := hl_2.below hb3
  have k3a := k3.alloc (.cells #[.int .i64 b, .int .i64 j, .int .i64 o, .bool cl, .int .i64 m] 25)
  have B3a := bt B3 (below_alloc w3 (.cells #[.int .i64 b, .int .i64 j, .int .i64 o, .bool cl, .int .i64 m] 25))
  have hx_3a := hx_3.below (below_alloc w3 (.cells #[.int .i64 b, .int .i64 j, .int .i64 o, .bool cl, .int .i64 m] 25))
  have hl_3a := hl_3.below (below_alloc w3 (.cells #[.int .i64 b, .int .i64 j, .int .i64 o, .bool cl, .int .i64 m] 25))
  have z3 := Blk.new' w3 25 #[.int .i64 b, .int .i64 j, .int .i64 o, .bool cl, .int .i64 m]
  have cb0 := z3.cell' (i := 0) rfl
  have cb1 := z3.cell' (i := 1) rfl
  have cb2 := z3.cell' (i := 2) rfl
  have cb3 := z3.cell' (i := 3) rfl
  have cb4 := z3.cell' (i := 4) rfl
  have cc0 := k3a.cell' (i := 0) rfl
  have cc1 := k3a.cell' (i := 1) rfl
  have cc2 := k3a.cell' (i := 2) rfl
  have cc3 := k3a.cell' (i := 3) rfl
  have cc4 := k3a.cell' (i := 4) rfl
  have hlt3 := z3.lt
  go_wp2_with fail
  refine (hee _ (HI _ B3a)).mono ?_
  rintro e w4 ⟨p4, n4, c4, rfl, hin4, hb4⟩
  have k4 := k3a.kept hb4
  have B4 := bt B3a hb4
  have hx_4 := hx_3a.below hb4
  have hl_4 := hl_3a.below hb4
  have hn4 := hin4.len
  rw [EL.out] at hn4
  subst hn4
  go_wp2_with fail
  refine (hdd1 _ p4 c4 hin4).mono ?_
  rintro e w5 ⟨p5, n5, c5, rfl, hin5, hb5⟩
  have k5 := k4.kept hb5
  have B5 := bt B4 hb5
  have hx_5 := hx_4.below hb5
  have hl_5 := hl_4.below hb5
  have hm5 := hin5.len
  rw [HL.out] at hm5
  subst hm5
  go_wp2_with fail
  refine (equalD_yes p5 a nl c5 cl' l _ hin5 hl_5).mono ?_
  rintro e w6 ⟨rfl, hb6⟩
  have k6 := k5.kept hb6
  have B6 := bt B5 hb6
  have hx_6 := hx_5.below hb6
  have hl_6 := hl_5.below hb6
  go_wp2_with fail
  refine (hdx _ (HX _ B6)).mono ?_
  rintro e w7 ⟨rfl, hb7⟩
  have k7 := k6.kept hb7
  have B7 := bt B6 hb7
  have hx_7 := hx_6.below hb7
  have hl_7 := hl_6.below hb7
  have k7a := k7.alloc (.cells #[.int .i64 y0, .int .i64 y1, .int .i64 y2, .bool y3, .int .i64 y4] 25)
  have B7a := bt B7 (below_alloc w7 (.cells #[.int .i64 y0, .int .i64 y1, .int .i64 y2, .bool y3, .int .i64 y4] 25))
  have hx_7a := hx_7.below (below_alloc w7 (.cells #[.int .i64 y0, .int .i64 y1, .int .i64 y2, .bool y3, .int .i64 y4] 25))
  have hl_7a := hl_7.below (below_alloc w7 (.cells #[.int .i64 y0, .int .i64 y1, .int .i64 y2, .bool y3, .int .i64 y4] 25))
  go_wp2_with fail
  refine (hdl _ (HX _ B7a)).mono ?_
  rintro e w8 ⟨p8, n8, c8, rfl, hin8, hb8⟩
  have k8 := k7a.kept hb8
  have B8 := bt B7a hb8
  have hx_8 := hx_7a.below hb8
  have hl_8 := hl_7a.below hb8
  go_wp2_with fail
  refine (hel _ p8 n8 c8 hin8).mono ?_
  rintro e w9 ⟨p9, n9, c9, rfl, hin9, hb9⟩
  have k9 := k8.kept hb9
  have B9 := bt B8 hb9
  have hx_9 := hx_8.below hb9
  have hl_9 := hl_8.below hb9
  go_wp2_with fail
  refine (equal_any p9 p n9 c9 n c _ xs _ hin9 hx_9).mono ?_
  rintro e w' ⟨rfl, hw'⟩
  have hw2 := hw'.symm; subst hw2; clear hw'
  rw [beq_self_eq_true]
  go_wp2
  go_ret
  exact ⟨rfl, B9⟩
set_option linter.unusedVariables false in
set_option linter.unusedSimpArgs false in
set_option maxHeartbeats 4000000 in
set_option maxRecDepth 100000 in
theorem back_yynn (b j o : Int) (cl : Bool) (m : Int) (a : Option Addr) (nl cl' : Nat) (l : List Dsc) (p : Option Addr) (n c : Nat) (xs sl el : List Nat) (dl : List Dsc) (se ee de dd y0 y1 y2 : Int) (y3 : Bool) (y4 : Int) (w : World) (hx : In w p n c xs) (hl : InD w a nl cl' l)
    (hen : ∀ w, Calls Try.prog 5 #[.agg #[.int .i64 b, .int .i64 j, .int .i64 o, .bool cl, .int .i64 m]] w fun e w' => ∃ p n c, e = .returned (.tuple #[.slice p n c, .int .i64 se]) ∧ In w' p n c sl ∧ Below w.heap.size w w')
    (hds : se = 0 → ∀ w p c, In w p 256 c sl → Calls Try.prog 6 #[.slice p 256 c] w fun e w' => e = .returned (.tuple #[.agg #[.int .i64 b, .int .i64 j, .int .i64 o, .bool cl, .int .i64 m], .int .i64 0]) ∧ Below w.heap.size w w')
    (hee : ∀ w, InD w a nl cl' l → Calls Try.prog 7 #[.slice a nl cl'] w fun e w' => ∃ p' n' c', e = .returned (.tuple #[.slice p' n' c', .int .i64 ee]) ∧ In w' p' n' c' el ∧ Below w.heap.size w w')
    (hdd1 : ee = 0 → ∀ w p c, In w p 256 c el → Calls Try.prog 8 #[.slice p 256 c, .int .i64 (nl : Int)] w fun e w' => ∃ p' n' c', e = .returned (.tuple #[.slice p' n' c', .int .i64 0]) ∧ InD w' p' n' c' l ∧ Below w.heap.size w w')
    (hdx : ∀ w, In w p n c xs → Calls Try.prog 6 #[.slice p n c] w fun e w' => e = .returned (.tuple #[.agg #[.int .i64 y0, .int .i64 y1, .int .i64 y2, .bool y3, .int .i64 y4], .int .i64 de]) ∧ Below w.heap.size w w')
    (hex : de = 0 → ∀ w, Calls Try.prog 5 #[.agg #[.int .i64 y0, .int .i64 y1, .int .i64 y2, .bool y3, .int .i64 y4]] w fun e w' => ∃ p n c, e = .returned (.tuple #[.slice p n c, .int .i64 0]) ∧ In w' p n c xs ∧ Below w.heap.size w w')
    (hdl : ∀ w, In w p n c xs → Calls Try.prog 8 #[.slice p n c, .int .i64 (nl : Int)] w fun e w' => ∃ p' n' c', e = .returned (.tuple #[.slice p' n' c', .int .i64 dd]) ∧ InD w' p' n' c' dl ∧ Below w.heap.size w w')
    (hel : dd = 0 → ∀ w p n c, InD w p n c dl → Calls Try.prog 7 #[.slice p n c] w fun e w' => ∃ p' n' c', e = .returned (.tuple #[.slice p' n' c', .int .i64 0]) ∧ In w' p' n' c' xs ∧ Below w.heap.size w w')
    (SL : se = 0 → Hid (sl.length = 256)) (EL : ee = 0 → Hid (el.length = 256)) (hse : se = 0) (hee0 : ee = 0) (hde0 : (de == 0) = false) (hdd0 : (dd == 0) = false) : Calls Try.prog 3 #[.agg #[.int .i64 b, .int .i64 j, .int .i64 o, .bool cl, .int .i64 m], .slice a nl cl', .slice p n c] w fun e w' => e = .returned (.bool true) ∧ Below w.heap.size w w' := by
  have HL : Hid (l.length = nl) := hl.len
  have hb0 := below_alloc w (.cells #[.int .i64 b, .int .i64 j, .int .i64 o, .bool cl, .int .i64 m] 25)
  have b0 := Blk.new' w 25 #[.int .i64 b, .int .i64 j, .int .i64 o, .bool cl, .int .i64 m]
  have hx0 := hx.below hb0
  have hl0 := hl.below hb0
  have HX := fun W (h : Below w.heap.size w W) => hx.below h
  have HI := fun W (h : Below w.heap.size w W) => hl.below h
  subst hse
  replace hds := hds rfl
  replace SL := SL rfl
  subst hee0
  replace hdd1 := hdd1 rfl
  replace EL := EL rfl
  clear hex
  clear hel
  go_enter Try.func3, Try.ntmps3
  go_wp2_with fail
  refine (live_any _).mono ?_
  rintro e w1 ⟨rfl, hb1⟩
  have k1 := b0.kept hb1
  have B1 := bt hb0 hb1
  have hx_1 := hx0.below hb1
  have hl_1 := hl0.below hb1
  have ca0 := k1.cell' (i := 0) rfl
  have ca1 := k1.cell' (i := 1) rfl
  have ca2 := k1.cell' (i := 2) rfl
  have ca3 := k1.cell' (i := 3) rfl
  have ca4 := k1.cell' (i := 4) rfl
  go_wp2_with fail
  refine (hen _).mono ?_
  rintro e w2 ⟨p2, n2, c2, rfl, hin2, hb2⟩
  have k2 := k1.kept hb2
  have B2 := bt B1 hb2
  have hx_2 := hx_1.below hb2
  have hl_2 := hl_1.below hb2
  have hn2 := hin2.len
  rw [SL.out] at hn2
  subst hn2
  go_wp2_with fail
  refine (hds _ p2 c2 hin2).mono ?_
  rintro e w3 ⟨rfl, hb3⟩
  have k3 := k2.kept hb3
  have B3 := bt B2 hb3
  have hx_3 := hx_2.below hb3
  have hl_3 := hl_2.below hb3
  have k3a := k3.alloc (.cells #[.int .i64 b, .int .i64 j, .int .i64 o, .bool cl, .int .i64 m] 25)
  have B3a := bt B3 (below_alloc w3 (.cells #[.int .i64 b, .int .i64 j, .int .i64 o, .bool cl, .int .i64 m] 25))
  have hx_3a := hx_3.below (below_alloc w3 (.cells #[.int .i64 b, .int .i64 j, .int .i64 o, .bool cl, .int .i64 m] 25))
  have hl_3a := hl_3.below (below_alloc w3 (.cells #[.int .i64 b, .int .i64 j, .int .i64 o, .bool cl, .int .i64 m] 25))
  have z3 := Blk.new' w3 25 #[.int .i64 b, .int .i64 j, .int .i64 o, .bool cl, .int .i64 m]
  have cb0 := z3.cell' (i := 0) rfl
  have cb1 := z3.cell' (i := 1) rfl
  have cb2 := z3.cell' (i := 2) rfl
  have cb3 := z3.cell' (i := 3) rfl
  have cb4 := z3.cell' (i := 4) rfl
  have cc0 := k3a.cell' (i := 0) rfl
  have cc1 := k3a.cell' (i := 1) rfl
  have cc2 := k3a.cell' (i := 2) rfl
  have cc3 := k3a.cell' (i := 3) rfl
  have cc4 := k3a.cell' (i := 4) rfl
  have hlt3 := z3.lt
  go_wp2_with fail
  refine (hee _ (HI _ B3a)).mono ?_
  rintro e w4 ⟨p4, n4, c4, rfl, hin4, hb4⟩
  have k4 := k3a.kept hb4
  have B4 := bt B3a hb4
  have hx_4 := hx_3a.below hb4
  have hl_4 := hl_3a.below hb4
  have hn4 := hin4.len
  rw [EL.out] at hn4
  subst hn4
  go_wp2_with fail
  refine (hdd1 _ p4 c4 hin4).mono ?_
  rintro e w5 ⟨p5, n5, c5, rfl, hin5, hb5⟩
  have k5 := k4.kept hb5
  have B5 := bt B4 hb5
  have hx_5 := hx_4.below hb5
  have hl_5 := hl_4.below hb5
  have hm5 := hin5.len
  rw [HL.out] at hm5
  subst hm5
  go_wp2_with fail
  refine (equalD_yes p5 a nl c5 cl' l _ hin5 hl_5).mono ?_
  rintro e w6 ⟨rfl, hb6⟩
  have k6 := k5.kept hb6
  have B6 := bt B5 hb6
  have hx_6 := hx_5.below hb6
  have hl_6 := hl_5.below hb6
  go_wp2_with fail
  refine (hdx _ (HX _ B6)).mono ?_
  rintro e w7 ⟨rfl, hb7⟩
  have k7 := k6.kept hb7
  have B7 := bt B6 hb7
  have hx_7 := hx_6.below hb7
  have hl_7 := hl_6.below hb7
  have k7a := k7.alloc (.cells #[.int .i64 y0, .int .i64 y1, .int .i64 y2, .bool y3, .int .i64 y4] 25)
  have B7a := bt B7 (below_alloc w7 (.cells #[.int .i64 y0, .int .i64 y1, .int .i64 y2, .bool y3, .int .i64 y4] 25))
  have hx_7a := hx_7.below (below_alloc w7 (.cells #[.int .i64 y0, .int .i64 y1, .int .i64 y2, .bool y3, .int .i64 y4] 25))
  have hl_7a := hl_7.below (below_alloc w7 (.cells #[.int .i64 y0, .int .i64 y1, .int .i64 y2, .bool y3, .int .i64 y4] 25))
  go_wp2_with fail
  refine (hdl _ (HX _ B7a)).mono ?_
  rintro e w8 ⟨p8, n8, c8, rfl, hin8, hb8⟩
  have k8 := k7a.kept hb8
  have B8 := bt B7a hb8
  have hx_8 := hx_7a.below hb8
  have hl_8 := hl_7a.below hb8
  go_wp2
  go_ret
  exact ⟨rfl, B8⟩
end Go.Proofs.Ytbimcdaplnmjdab
