/-
  The reference's Settled, of sizes that fit.
-/
import Derived.Test.YtfgelncfmopibaaSnRTab
namespace Go.Proofs.Ytfgelncfmopibaa
open Go.RowKit
/-- The block of the first k places from place a on: -1: none yet; none: it is not settled. -/
def refH (zs : List Pl) (a : Nat) : Nat → Option Int
  | 0 => some (-1)
  | k + 1 => match refH zs a k with
    | none => none
    | some x => if isPl (eZ zs (a + k)) = false then some x else if (eZ zs (a + k)).pg = (k : Int) ∧ (x < 0 ∨ (eZ zs (a + k)).ph = x) then some (eZ zs (a + k)).ph else none
theorem refH_none {zs : List Pl} {a k : Nat} (h : refH zs a k = none) {m : Nat} (hm : k ≤ m) : refH zs a m = none := by
  induction m with
  | zero => obtain rfl : k = 0 := by omega
            exact h
  | succ m ih =>
    by_cases e : k = m + 1
    · subst e; exact h
    · unfold refH; rw [ih (by omega)]
/-- Whether one of the first i places is of another logical block and stands in block x. -/
def refG (zs : List Pl) (P B : Nat) (x : Int) : Nat → Bool
  | 0 => false
  | i + 1 => refG zs P B x i || (!(i / P == B) && (isPl (eZ zs i) && (eZ zs i).ph == x))
theorem refG_true {zs : List Pl} {P B : Nat} {x : Int} {k : Nat} (h : refG zs P B x k = true) {m : Nat} (hm : k ≤ m) : refG zs P B x m = true := by
  induction m with
  | zero => obtain rfl : k = 0 := by omega
            exact h
  | succ m ih =>
    by_cases e : k = m + 1
    · subst e; exact h
    · unfold refG; rw [ih (by omega)]; rfl
def setR (zs : List Pl) (P B a n : Nat) : Int × Bool := match refH zs a P with
  | none => (0, false)
  | some x => if x < 0 then (0, false) else if refG zs P B x n then (0, false) else (x, true)
set_option linter.unusedSimpArgs false in
set_option maxRecDepth 100000 in
set_option maxHeartbeats 8000000 in
theorem settledR_ok (P B a m : Nat) (p : Option Addr) (n c : Nat) (zs : List Pl) (w : World) (hz : InZ w p n c zs) (hn : n ≤ 1000000) (HA : Hid (a = B * P)) (HM : Hid (n = m * P)) (hP : 4 ≤ P) (hP2 : P ≤ 32) (hB : B < m) :
    Calls Try.prog 22 #[.int .i64 (P : Int), .slice p n c, .int .i64 (B : Int)] w fun e w' => e = .returned (.tuple #[.int .i64 (setR zs P B a n).1, .bool (setR zs P B a n).2]) ∧ Below w.heap.size w w' := by
  have hroom := hz.room
  have hmul : (B : Int) * (P : Int) = (a : Int) := by rw [HA.out]; exact (Int.natCast_mul B P).symm
  have hfit : a + P ≤ n := by rw [HA.out, HM.out, ← Nat.succ_mul]; exact Nat.mul_le_mul_right P hB
  have hBa : B ≤ a := by rw [HA.out]; exact Nat.le_mul_of_pos_right B (by omega)
  have hmn : m ≤ n := by rw [HM.out]; exact Nat.le_mul_of_pos_right m (by omega)
  have hrem : (n : Int).tmod (P : Int) = 0 := by rw [HM.out]; show ((m * P % P : Nat) : Int) = 0; rw [Nat.mul_mod_left]; rfl
  have hdiv : (n : Int) / (P : Int) = (m : Int) := by rw [HM.out, Int.natCast_mul]; exact Int.mul_ediv_cancel _ (by omega)
  have hmod : (n : Int) % (P : Int) = 0 := by rw [HM.out, Int.natCast_mul]; exact Int.mul_emod_left _ _
  have hp0 : ¬ (P : Int) = 0 := by omega
  have hai : (a : Int) ≤ 1000000 := by omega
  have hPi : (P : Int) ≤ 32 := by omega
  have hPi4 : (4 : Int) ≤ (P : Int) := by omega
  have hnI : (n : Int) ≤ 1000000 := by omega
  have hBm : (B : Int) < (m : Int) := by omega
  have hmI : (m : Int) ≤ 1000000 := by omega
  have d1 : ¬ (P : Int) < 4 := by omega
  have d2 : ¬ (32 : Int) < (P : Int) := by omega
  have d3 : ¬ (B : Int) < 0 := by omega
  have d4 : ¬ (m : Int) ≤ (B : Int) := by omega
  have d5 : ¬ m ≤ B := by omega
  obtain ⟨b, o, rfl, hbl, -⟩ := hz.at' (by omega)
  go_enter Try.func22, Try.ntmps22
  go_upto_region 3 with (fail)
  go_wp2
  go_loopw [8, 9] (fun ph i wr => ∃ (k : Nat) (x : Int), k ≤ P ∧ i = .int .i64 k ∧ refH zs a k = some x ∧ ph = .int .i64 x ∧ Below w.heap.size w wr) (fun _ i _ => P - (intOf i).toNat)
  case atStart => exact ⟨0, -1, Nat.zero_le _, rfl, rfl, rfl, Below.refl _ _⟩
  case round =>
    obtain ⟨k, x, hk, rfl, hto, rfl, hbk⟩ := hrel
    by_cases hlt : k < P
    · obtain ⟨j, hj⟩ : ∃ j : Nat, j = a + k := ⟨_, rfl⟩
      have hji : (a : Int) + (k : Int) = (j : Int) := by omega
      have hjn : (j : Int) < (n : Int) := by omega
      have hjb : (j : Int) ≤ 1000000 := by omega
      obtain ⟨b', o', e', hbl2, hc⟩ := (hz.below hbk).at' (by omega)
      cases e'
      obtain ⟨e0, e1⟩ := hc j (by omega)
      have HU : Hid (refH zs a (k + 1) = if isPl (eZ zs j) = false then some x else if (eZ zs j).pg = (k : Int) ∧ (x < 0 ∨ (eZ zs j).ph = x) then some (eZ zs j).ph else none) := by
        show (match refH zs a k with | none => none | some x => _) = _
        rw [hto, hj]
      generalize eZ zs j = z at *
      obtain ⟨zh, zg⟩ := z
      dsimp only at e0 e1 HU
      have hki : (k : Int) < (P : Int) := by omega
      clear hc hto hj
      have ba := below_alloc wr (.cells #[.int .i64 zh, .int .i64 zg] 29)
      have bb := Blk.new' wr 29 #[.int .i64 zh, .int .i64 zg]
      cases hp : isPl ⟨zh, zg⟩ with
      | false =>
        have HU' : Hid (refH zs a (k + 1) = some x) := by show _ = _; rw [HU.out, if_pos hp]
        clear HU
        go_wp2_with (go_at_call 49; refine (is_any _ _ _).mono ?_; rintro e w1 ⟨rfl, hb1⟩; have q1 := bb.kept hb1; have z0 := q1.cell' (i := 0) rfl; have z1 := q1.cell' (i := 1) rfl; have t1 : Hid (Below w.heap.size w w1) := bt hbk (bt ba hb1); clear hb1)
        go_roundw
        case rel => exact ⟨k + 1, _, by omega, by go_num, HU'.out, rfl, t1.out⟩
        case measure => simp [intOf]; omega
      | true =>
        rw [if_neg (by rw [hp]; simp)] at HU
        by_cases hg : zg = (k : Int)
        · have hg' : (zg != (k : Int)) = false := by rw [hg]; simp
          by_cases hx0 : x < 0
          · have hx0' : ¬ 0 ≤ x := by omega
            have HU' : Hid (refH zs a (k + 1) = some zh) := by show _ = _; rw [HU.out, if_pos ⟨hg, .inl hx0⟩]
            clear HU hg
            go_wp2_with (go_at_call 49; refine (is_any _ _ _).mono ?_; rintro e w1 ⟨rfl, hb1⟩; have q1 := bb.kept hb1; have z0 := q1.cell' (i := 0) rfl; have z1 := q1.cell' (i := 1) rfl; have t1 : Hid (Below w.heap.size w w1) := bt hbk (bt ba hb1); clear hb1)
            go_roundw
            case rel => exact ⟨k + 1, _, by omega, by go_num, HU'.out, rfl, t1.out⟩
            case measure => simp [intOf]; omega
          · have hx0' : 0 ≤ x := by omega
            by_cases hxe : zh = x
            · have hxe' : (zh != x) = false := by rw [hxe]; simp
              have HU' : Hid (refH zs a (k + 1) = some zh) := by show _ = _; rw [HU.out, if_pos ⟨hg, .inr hxe⟩]
              clear HU hg hxe
              go_wp2_with (go_at_call 49; refine (is_any _ _ _).mono ?_; rintro e w1 ⟨rfl, hb1⟩; have q1 := bb.kept hb1; have z0 := q1.cell' (i := 0) rfl; have z1 := q1.cell' (i := 1) rfl; have t1 : Hid (Below w.heap.size w w1) := bt hbk (bt ba hb1); clear hb1)
              go_roundw
              case rel => exact ⟨k + 1, _, by omega, by go_num, HU'.out, rfl, t1.out⟩
              case measure => simp [intOf]; omega
            · have hxe' : (zh != x) = true := by rw [bne_iff_ne]; exact hxe
              have HU' : Hid (refH zs a (k + 1) = none) := by show _ = _; rw [HU.out, if_neg (fun h => h.2.elim hx0 hxe)]
              clear HU hg hxe
              have HR : Hid (setR zs P B a n = (0, false)) := by show _ = _; unfold setR; rw [refH_none HU'.out (m := P) hlt]
              go_wp2_with (go_at_call 49; refine (is_any _ _ _).mono ?_; rintro e w1 ⟨rfl, hb1⟩; have q1 := bb.kept hb1; have z0 := q1.cell' (i := 0) rfl; have z1 := q1.cell' (i := 1) rfl; have t1 : Hid (Below w.heap.size w w1) := bt hbk (bt ba hb1); clear hb1)
              go_ret2
              exact ⟨by rw [HR.out] <;> rfl, t1.out⟩
        · have hg' : (zg != (k : Int)) = true := by rw [bne_iff_ne]; exact hg
          have HU' : Hid (refH zs a (k + 1) = none) := by show _ = _; rw [HU.out, if_neg (fun h => hg h.1)]
          clear HU hg
          have HR : Hid (setR zs P B a n = (0, false)) := by show _ = _; unfold setR; rw [refH_none HU'.out (m := P) hlt]
          go_wp2_with (go_at_call 49; refine (is_any _ _ _).mono ?_; rintro e w1 ⟨rfl, hb1⟩; have q1 := bb.kept hb1; have z0 := q1.cell' (i := 0) rfl; have z1 := q1.cell' (i := 1) rfl; have t1 : Hid (Below w.heap.size w w1) := bt hbk (bt ba hb1); clear hb1)
          go_ret2
          exact ⟨by rw [HR.out] <;> rfl, t1.out⟩
    · obtain rfl : k = P := by omega
      have HH : Hid (setR zs k B a n = if x < 0 then (0, false) else if refG zs k B x n then (0, false) else (x, true)) := by show _ = _; unfold setR; rw [hto]
      clear hto hlt hk
      by_cases hx0 : x < 0
      · have HR : Hid (setR zs k B a n = (0, false)) := by show _ = _; rw [HH.out, if_pos hx0]
        go_wp2
        go_ret2
        exact ⟨by rw [HR.out] <;> rfl, hbk⟩
      · rw [if_neg hx0] at HH
        go_wp2
        go_loopw [11] (fun i wr => ∃ j : Nat, j ≤ n ∧ i = .int .i64 j ∧ refG zs k B x j = false ∧ Below w.heap.size w wr) (fun i _ => n - (intOf i).toNat)
        case atStart => exact ⟨0, Nat.zero_le _, rfl, rfl, hbk⟩
        case round =>
          obtain ⟨j, hj, rfl, hto, hbi0⟩ := hrel
          have hbi : Hid (Below w.heap.size w wr) := hbi0
          clear hbi0
          by_cases hlt : j < n
          · obtain ⟨b', o', e', hbl3, hc⟩ := (hz.below hbi.out).at' (by omega)
            cases e'
            obtain ⟨e0, e1⟩ := hc j hlt
            have HU : Hid (refG zs k B x (j + 1) = (!(j / k == B) && (isPl (eZ zs j) && (eZ zs j).ph == x))) := by show (refG zs k B x j || _) = _; rw [hto]; rfl
            generalize eZ zs j = z at *
            obtain ⟨zh, zg⟩ := z
            dsimp only at e0 e1 HU
            have hjI : (j : Int) < (n : Int) := by omega
            have hdj : (j : Int) / (k : Int) = ((j / k : Nat) : Int) := rfl
            obtain ⟨d, hd⟩ : ∃ d : Nat, d = j / k := ⟨_, rfl⟩
            have hdl : d ≤ j := by rw [hd]; exact Nat.div_le_self j k
            rw [← hd] at hdj HU
            have hdI : (d : Int) ≤ 1000000 := by omega
            clear hc hto hd
            by_cases hdB : d = B
            · subst hdB
              have HU' : Hid (refG zs k d x (j + 1) = false) := by show _ = _; rw [HU.out]; simp
              clear HU
              go_wp2_with (go_at_call 49; refine (is_any _ _ _).mono ?_; rintro e w1 ⟨rfl, hb1⟩; have hcw := fun q => hb1.cell (p := ⟨b, q, none⟩) hbl3; have v0 := (hcw _).trans e0; have t1 : Hid (Below w.heap.size w w1) := bt hbi.out hb1; clear hb1 hcw)
              go_roundw
              case rel => exact ⟨j + 1, by omega, by go_num, HU'.out, hbi.out⟩
              case measure => simp [intOf]; omega
            · have hdB' : ((d : Int) != (B : Int)) = true := by rw [bne_iff_ne]; omega
              have hdB2 : (d == B) = false := by rw [beq_eq_false_iff_ne]; exact hdB
              rw [hdB2, Bool.not_false, Bool.true_and] at HU
              cases hp : isPl ⟨zh, zg⟩ with
              | false =>
                have HU' : Hid (refG zs k B x (j + 1) = false) := by show _ = _; rw [HU.out, hp]; rfl
                clear HU
                go_wp2_with (go_at_call 49; refine (is_any _ _ _).mono ?_; rintro e w1 ⟨rfl, hb1⟩; have hcw := fun q => hb1.cell (p := ⟨b, q, none⟩) hbl3; have v0 := (hcw _).trans e0; have t1 : Hid (Below w.heap.size w w1) := bt hbi.out hb1; clear hb1 hcw)
                go_roundw
                case rel => exact ⟨j + 1, by omega, by go_num, HU'.out, t1.out⟩
                case measure => simp [intOf]; omega
              | true =>
                rw [hp, Bool.true_and] at HU
                cases hxe : (zh == x) with
                | false =>
                  have HU' : Hid (refG zs k B x (j + 1) = false) := by show _ = _; rw [HU.out, hxe]
                  clear HU
                  go_wp2_with (go_at_call 49; refine (is_any _ _ _).mono ?_; rintro e w1 ⟨rfl, hb1⟩; have hcw := fun q => hb1.cell (p := ⟨b, q, none⟩) hbl3; have v0 := (hcw _).trans e0; have t1 : Hid (Below w.heap.size w w1) := bt hbi.out hb1; clear hb1 hcw)
                  go_roundw
                  case rel => exact ⟨j + 1, by omega, by go_num, HU'.out, t1.out⟩
                  case measure => simp [intOf]; omega
                | true =>
                  have HR : Hid (setR zs k B a n = (0, false)) := by show _ = _; rw [HH.out, refG_true (HU.out.trans hxe) hlt]; rfl
                  clear HU
                  go_wp2_with (go_at_call 49; refine (is_any _ _ _).mono ?_; rintro e w1 ⟨rfl, hb1⟩; have hcw := fun q => hb1.cell (p := ⟨b, q, none⟩) hbl3; have v0 := (hcw _).trans e0; have t1 : Hid (Below w.heap.size w w1) := bt hbi.out hb1; clear hb1 hcw)
                  go_ret2
                  exact ⟨by rw [HR.out] <;> rfl, t1.out⟩
          · obtain rfl : j = n := by omega
            have HR : Hid (setR zs k B a j = (x, true)) := by show _ = _; rw [HH.out, hto]; rfl
            clear hto
            go_wp2
            go_ret2
            exact ⟨by rw [HR.out] <;> rfl, hbi.out⟩
end Go.Proofs.Ytfgelncfmopibaa
