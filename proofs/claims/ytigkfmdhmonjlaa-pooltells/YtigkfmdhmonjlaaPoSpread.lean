/-
  What slices.Min, slices.Max and Spread answer.
-/
import Derived.Test.YtigkfmdhmonjlaaPoAll
import Derived.Test.YtigkfmdhmonjlaaPoRNew
namespace Go.Proofs.Ytigkfmdhmonjlaa
open Go.RowKit
def minStep (a y : Int) : Int := if y < a then y else a
def maxStep (a y : Int) : Int := if a < y then y else a
def minL : List Int → Int
  | [] => 0
  | x :: r => r.foldl minStep x
def maxL : List Int → Int
  | [] => 0
  | x :: r => r.foldl maxStep x
theorem minL_snoc {xs : List Int} (h : 0 < xs.length) (y : Int) : minL (xs ++ [y]) = minStep (minL xs) y := by
  cases xs with
  | nil => simp at h
  | cons x r => simp [minL]
theorem maxL_snoc {xs : List Int} (h : 0 < xs.length) (y : Int) : maxL (xs ++ [y]) = maxStep (maxL xs) y := by
  cases xs with
  | nil => simp at h
  | cons x r => simp [maxL]
theorem minOf_any (p : Option Addr) (n c : Nat) (xs : List Int) (w : World) (hx : InI w p n c xs) (hn : 1 ≤ n) :
    Calls Try.prog 53 #[.slice p n c] w fun e w' => e = .returned (.int .i64 (minL xs)) ∧ w' = w := by
  have hroom := hx.room
  have HX : Hid (xs.length = n) := hx.len
  obtain ⟨b, o, rfl, hb', hc⟩ := hx.at' (by omega)
  have hc0 := hc 0 (by omega)
  have hn1 : ¬ (n : Int) < 1 := by omega
  have hn2 : (0 : Int) < (n : Int) := by omega
  rw [Nat.add_zero] at hc0
  have HH : Hid (∀ i, i < n → w.cell? ⟨b, o + i, none⟩ = some (.int .i64 (eI xs i))) := hc
  have H1 : Hid (xs.take 1 = [eI xs 0]) := by show _ = _; rw [takeI_succ xs 0 (by rw [HX.out]; omega)]; simp
  clear hc
  go_enter Try.func53, Try.ntmps53
  go_wp2
  go_loop [3, 4] (fun a i => ∃ k : Nat, 1 ≤ k ∧ k ≤ n ∧ i = .int .i64 k ∧ a = .int .i64 (minL (xs.take k))) (fun _ i => n - (intOf i).toNat)
  case atStart => exact ⟨1, Nat.le_refl _, hn, rfl, by rw [H1.out]; rfl⟩
  case round =>
    obtain ⟨k, hk1, hk, rfl, rfl⟩ := hrel
    by_cases hlt : k < n
    · have hck := HH.out k hlt
      have HS : Hid (minL (xs.take (k + 1)) = minStep (minL (xs.take k)) (eI xs k)) := by
        show _ = _
        rw [takeI_succ xs k (by rw [HX.out]; exact hlt)]
        exact minL_snoc (by rw [List.length_take, HX.out]; omega) _
      have hkn : (k : Int) < (n : Int) := by omega
      generalize minL (xs.take k) = mk at *
      generalize eI xs k = y at *
      by_cases hy : y < mk
      · have HS2 : Hid (minL (xs.take (k + 1)) = y) := by show _ = _; rw [HS.out]; unfold minStep; rw [if_pos hy]
        clear HS
        go_wp2
        go_round
        case rel => exact ⟨k + 1, by omega, by omega, by go_num, val_int HS2.out.symm⟩
        case measure => simp [intOf]; omega
      · have HS2 : Hid (minL (xs.take (k + 1)) = mk) := by show _ = _; rw [HS.out]; unfold minStep; rw [if_neg hy]
        clear HS
        go_wp2
        go_round
        case rel => exact ⟨k + 1, by omega, by omega, by go_num, val_int HS2.out.symm⟩
        case measure => simp [intOf]; omega
    · obtain rfl : k = n := by omega
      have et : Hid (xs.take k = xs) := List.take_of_length_le (by rw [HX.out]; exact Nat.le_refl _)
      go_wp2
      go_ret
      rw [et.out]
      exact ⟨rfl, rfl⟩
theorem maxOf_any (p : Option Addr) (n c : Nat) (xs : List Int) (w : World) (hx : InI w p n c xs) (hn : 1 ≤ n) :
    Calls Try.prog 54 #[.slice p n c] w fun e w' => e = .returned (.int .i64 (maxL xs)) ∧ w' = w := by
  have hroom := hx.room
  have HX : Hid (xs.length = n) := hx.len
  obtain ⟨b, o, rfl, hb', hc⟩ := hx.at' (by omega)
  have hc0 := hc 0 (by omega)
  have hn1 : ¬ (n : Int) < 1 := by omega
  have hn2 : (0 : Int) < (n : Int) := by omega
  rw [Nat.add_zero] at hc0
  have HH : Hid (∀ i, i < n → w.cell? ⟨b, o + i, none⟩ = some (.int .i64 (eI xs i))) := hc
  have H1 : Hid (xs.take 1 = [eI xs 0]) := by show _ = _; rw [takeI_succ xs 0 (by rw [HX.out]; omega)]; simp
  clear hc
  go_enter Try.func54, Try.ntmps54
  go_wp2
  go_loop [3, 4] (fun a i => ∃ k : Nat, 1 ≤ k ∧ k ≤ n ∧ i = .int .i64 k ∧ a = .int .i64 (maxL (xs.take k))) (fun _ i => n - (intOf i).toNat)
  case atStart => exact ⟨1, Nat.le_refl _, hn, rfl, by rw [H1.out]; rfl⟩
  case round =>
    obtain ⟨k, hk1, hk, rfl, rfl⟩ := hrel
    by_cases hlt : k < n
    · have hck := HH.out k hlt
      have HS : Hid (maxL (xs.take (k + 1)) = maxStep (maxL (xs.take k)) (eI xs k)) := by
        show _ = _
        rw [takeI_succ xs k (by rw [HX.out]; exact hlt)]
        exact maxL_snoc (by rw [List.length_take, HX.out]; omega) _
      have hkn : (k : Int) < (n : Int) := by omega
      generalize maxL (xs.take k) = mk at *
      generalize eI xs k = y at *
      by_cases hy : mk < y
      · have HS2 : Hid (maxL (xs.take (k + 1)) = y) := by show _ = _; rw [HS.out]; unfold maxStep; rw [if_pos hy]
        clear HS
        go_wp2
        go_round
        case rel => exact ⟨k + 1, by omega, by omega, by go_num, val_int HS2.out.symm⟩
        case measure => simp [intOf]; omega
      · have HS2 : Hid (maxL (xs.take (k + 1)) = mk) := by show _ = _; rw [HS.out]; unfold maxStep; rw [if_neg hy]
        clear HS
        go_wp2
        go_round
        case rel => exact ⟨k + 1, by omega, by omega, by go_num, val_int HS2.out.symm⟩
        case measure => simp [intOf]; omega
    · obtain rfl : k = n := by omega
      have et : Hid (xs.take k = xs) := List.take_of_length_le (by rw [HX.out]; exact Nat.le_refl _)
      go_wp2
      go_ret
      rw [et.out]
      exact ⟨rfl, rfl⟩
/-- The wears of the blocks below k that are not out of use. -/
def goodW (R W : List Int) (k : Nat) : List Int := ((List.range k).filter fun i => decide (¬ eI R i = 6)).map fun i => eI W i
theorem goodW_yes {R W : List Int} {k : Nat} (h : ¬ eI R k = 6) : goodW R W (k + 1) = goodW R W k ++ [eI W k] := by
  simp [goodW, List.range_succ, List.filter_append, h]
theorem goodW_no {R W : List Int} {k : Nat} (h : eI R k = 6) : goodW R W (k + 1) = goodW R W k := by
  simp [goodW, List.range_succ, List.filter_append, h]
theorem goodW_le (R W : List Int) (k : Nat) : (goodW R W k).length ≤ k := by
  have := List.length_filter_le (fun i => decide (¬ eI R i = 6)) (List.range k)
  simpa [goodW] using this
def spreadA (R W : List Int) : Int := if okPool R W then minL (goodW R W R.length) else 0
def spreadB (R W : List Int) : Int := if okPool R W then maxL (goodW R W R.length) else 0
set_option linter.unusedSimpArgs false in
set_option maxHeartbeats 1000000 in
theorem spread_any (p q : Option Addr) (n c m d : Nat) (R W : List Int) (w : World) (hR : InI w p n c R) (hW : InI w q m d W) :
    Calls Try.prog 30 #[.agg #[.slice p n c, .slice q m d]] w fun e w' => e = .returned (.tuple #[.int .i64 (spreadA R W), .int .i64 (spreadB R W)]) ∧ Below w.heap.size w w' := by
  obtain ⟨i0, hi, hz0, hz1, hz2⟩ := info_parts info2
  have HL : Hid (R.length = n) := hR.len
  have HLW : Hid (W.length = m) := hW.len
  have hb0 := below_alloc w (.cells #[.slice p n c, .slice q m d] 25)
  have b0 := Blk.new' w 25 #[.slice p n c, .slice q m d]
  cases hok : okPool R W with
  | false =>
    have HE : Hid (checkE R W = 40) := checkE_no hok
    have HA : Hid (spreadA R W = 0) := by show _ = _; unfold spreadA; rw [hok]; rfl
    have HB : Hid (spreadB R W = 0) := by show _ = _; unfold spreadB; rw [hok]; rfl
    go_enter Try.func30, Try.ntmps30
    go_wp2_with (go_at_call 14; refine (check_any p q n c m d R W _ (hR.below hb0) (hW.below hb0)).mono ?_; rintro e w1 ⟨rfl, hb1⟩; rw [HE.out])
    go_ret2
    rw [HA.out, HB.out]
    exact ⟨rfl, bt hb0 hb1⟩
  | true =>
    have HE : Hid (checkE R W = 0) := checkE_ok hok
    have HA : Hid (spreadA R W = minL (goodW R W n)) := by show _ = _; unfold spreadA; rw [hok, HL.out]; rfl
    have HB : Hid (spreadB R W = maxL (goodW R W n)) := by show _ = _; unfold spreadB; rw [hok, HL.out]; rfl
    have hnm : n = m := by have := (okPool_iff.1 hok).1.1; rw [HL.out, HLW.out] at this; exact this
    subst hnm
    have HN : Hid (16 ≤ n ∧ n ≤ 256) := by have := (okPool_iff.1 hok).1; rw [HL.out] at this; exact ⟨by omega, by omega⟩
    have hn := HN.out
    clear hok
    go_enter Try.func30, Try.ntmps30
    go_upto_region 3 with (go_at_call 14; refine (check_any p q n c n d R W _ (hR.below hb0) (hW.below hb0)).mono ?_; rintro e w1 ⟨rfl, hb1⟩; rw [HE.out])
    have b1 := b0.kept hb1
    have hB1 := bt hb0 hb1
    have hR1 := hR.below hB1
    have hW1 := hW.below hB1
    obtain ⟨bp, op, rfl, hltp, hcp⟩ := hR1.at' (by omega)
    obtain ⟨bq, oq, rfl, hltq, hcq⟩ := hW1.at' (by omega)
    have HC : Hid (∀ i, i < n → w1.cell? ⟨bp, op + i, none⟩ = some (.int .i64 (eI R i))) := hcp
    have HQ : Hid (∀ i, i < n → w1.cell? ⟨bq, oq + i, none⟩ = some (.int .i64 (eI W i))) := hcq
    have c1 := b1.cell' (i := 1) rfl
    clear hR hW hb0 b0 hb1 hR1 hcp hW1 hcq
    go_wp2_with fail
    go_loopw [4, 13] (fun v i wr => ∃ (k : Nat) (pv : Option Addr) (cv : Nat), k ≤ n ∧ i = .int .i64 k ∧ v = .slice pv (goodW R W k).length cv ∧ wr.ownsRow w1.heap.size 2 1 (.slice pv (goodW R W k).length cv) (goodW R W k).length (valsI (goodW R W k)) ∧ Below w1.heap.size w1 wr) (fun _ i _ => n - (intOf i).toNat)
    case atStart => exact ⟨0, none, 0, Nat.zero_le _, rfl, rfl, World.ownsRow_nil _ _ _ _, Below.refl _ _⟩
    case round =>
      obtain ⟨k, pv, cv, hk, rfl, rfl, hown, hbk⟩ := hrel
      have hle := goodW_le R W k
      obtain ⟨L, hL⟩ : ∃ L, (goodW R W k).length = L := ⟨_, rfl⟩
      rw [hL] at hown hle ⊢
      have HL2 : Hid ((goodW R W k).length = L) := hL
      clear hL
      by_cases hlt : k < n
      · have ck := (hbk.cell (p := ⟨bp, op + k, none⟩) hltp).trans (HC.out k hlt)
        have cw := (hbk.cell (p := ⟨bq, oq + k, none⟩) hltq).trans (HQ.out k hlt)
        have e1 := b1.kept hbk
        have z0 := e1.cell' (i := 0) rfl
        have hk1 : (k : Int) < (n : Int) := by omega
        by_cases hr : eI R k = 6
        · have HI : Hid (goodW R W (k + 1) = goodW R W k) := goodW_no hr
          rw [hr] at ck
          clear hr
          go_wp2_with fail
          go_roundw
          case rel => exact ⟨k + 1, pv, cv, by omega, by go_num, by rw [HI.out, HL2.out], by rw [HI.out, HL2.out]; exact hown, hbk⟩
          case measure => simp [intOf]; omega
        · have HI : Hid (goodW R W (k + 1) = goodW R W k ++ [eI W k]) := goodW_yes hr
          have hrb : (eI R k != 6) = true := by simpa using hr
          clear hr
          generalize goodW R W k = gs at *
          generalize eI W k = wk at *
          go_wp2_with (at_builtin; refine wpList_append_own _ rfl (.tmp 24) (.tmp 26) 23 rfl w1.heap.size 2 i0 (.int .i64 0) 1 8 Try.underlying23 hi hz0 hz1 hz2 rfl (by decide) (.slice pv L cv) L (valsI gs) rfl (hown.alloc _) ⟨wr.heap.size, 0, none⟩ 1 1 [.int .i64 wk] rfl rfl (new_oneL wr wk) (by simp [Value.oneCell']) (by unfold maxLen; omega) (by omega) (by have := hbk.size; rw [World.size_alloc]; omega) ?_; intro v1 w2 hown2 hgrow2 _)
          go_roundw
          case rel =>
            obtain ⟨p2, c2, rfl⟩ := snoc_form hown2 (by omega)
            have e2 : valsI gs ++ [Value.int .i64 wk] = valsI (gs ++ [wk]) := by rw [valsI_append]; rfl
            rw [e2] at hown2
            refine ⟨k + 1, p2, c2, by omega, by go_num, by rw [HI.out, List.length_append, HL2.out]; rfl, by rw [HI.out, List.length_append, HL2.out]; exact hown2, (hbk.alloc hbk.size _).grown hgrow2 (by have := hbk.size; rw [World.size_alloc]; omega) (fun j hj => (hown.lt j hj).1)⟩
          case measure => simp [intOf]; omega
      · have hkn : k = n := by omega
        subst hkn
        have hin : InI wr pv L cv (goodW R W k) := by obtain ⟨p2, c2, e2, hin⟩ := in_of_ownsI hown (by omega); cases e2; exact hin
        by_cases h0 : L = 0
        · have HG : Hid (goodW R W k = []) := List.eq_nil_of_length_eq_zero (by rw [HL2.out]; exact h0)
          subst h0
          go_wp2_with fail
          go_ret2
          rw [HA.out, HB.out, HG.out]
          exact ⟨rfl, hB1.trans (hbk.mono hB1.size)⟩
        · have h0b : ((L : Int) == 0) = false := by simp; omega
          go_wp2_with (first
            | (go_at_call 53; refine (minOf_any _ _ _ _ _ hin (by omega)).mono ?_; rintro e w' ⟨rfl, hw'⟩; have hw2 := hw'.symm; subst hw2; clear hw')
            | (go_at_call 54; refine (maxOf_any _ _ _ _ _ hin (by omega)).mono ?_; rintro e w' ⟨rfl, hw'⟩; have hw2 := hw'.symm; subst hw2; clear hw'))
          go_ret2
          rw [HA.out, HB.out]
          exact ⟨rfl, hB1.trans (hbk.mono hB1.size)⟩
end Go.Proofs.Ytigkfmdhmonjlaa
