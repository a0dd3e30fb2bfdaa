/-
  What the reference's Spread answers.
-/
import Derived.Test.YtigkfmdhmonjlaaPoSpread
import Derived.Test.YtigkfmdhmonjlaaPoRCheck
namespace Go.Proofs.Ytigkfmdhmonjlaa
open Go.RowKit
/-- The least wear so far, or -1. -/
def leastO (l : List Int) : Int := if l = [] then -1 else minL l
theorem leastO_nil {l : List Int} (h : l = []) : leastO l = -1 := by unfold leastO; rw [if_pos h]
theorem leastO_some {l : List Int} (h : ¬ l = []) : leastO l = minL l := by unfold leastO; rw [if_neg h]
theorem minFold_nn (r : List Int) : ∀ x : Int, 0 ≤ x → (∀ y ∈ r, 0 ≤ y) → 0 ≤ r.foldl minStep x := by
  induction r with
  | nil => intro x h _; exact h
  | cons y r ih =>
    intro x hx hr
    rw [List.foldl_cons]
    refine ih _ ?_ (fun z hz => hr z (by simp [hz]))
    unfold minStep
    split
    · exact hr y (by simp)
    · exact hx
theorem maxFold_nn (r : List Int) : ∀ x : Int, 0 ≤ x → 0 ≤ r.foldl maxStep x := by
  induction r with
  | nil => intro x h; exact h
  | cons y r ih =>
    intro x hx
    rw [List.foldl_cons]
    refine ih _ ?_
    unfold maxStep
    split <;> omega
theorem minL_nn {l : List Int} (h : ∀ y ∈ l, 0 ≤ y) : 0 ≤ minL l := by
  cases l with
  | nil => exact Int.le_refl _
  | cons x r => exact minFold_nn r x (h x (by simp)) (fun y hy => h y (by simp [hy]))
theorem goodW_nn {R W : List Int} {k : Nat} (h : ∀ i, i < k → 0 ≤ eI W i) : ∀ y ∈ goodW R W k, 0 ≤ y := by
  intro y hy
  unfold goodW at hy
  obtain ⟨i, hi, rfl⟩ := List.mem_map.1 hy
  simp at hi
  exact h i hi.1
theorem least_snoc {l : List Int} (hl : ∀ y ∈ l, 0 ≤ y) (y : Int) : leastO (l ++ [y]) = if leastO l < 0 ∨ y < leastO l then y else leastO l := by
  rw [leastO_some (by simp)]
  by_cases h : l = []
  · subst h
    rw [leastO_nil rfl, if_pos (.inl (by decide))]
    rfl
  · rw [leastO_some h, minL_snoc (List.length_pos_iff.2 h)]
    have := minL_nn hl
    unfold minStep
    by_cases hy : y < minL l
    · rw [if_pos hy, if_pos (.inr hy)]
    · rw [if_neg hy, if_neg (fun h' => by rcases h' with h' | h' <;> omega)]
theorem most_snoc {l : List Int} (y : Int) (hy : 0 ≤ y) : maxL (l ++ [y]) = if maxL l < y then y else maxL l := by
  by_cases h : l = []
  · subst h
    show y = if (0 : Int) < y then y else 0
    split <;> omega
  · rw [maxL_snoc (List.length_pos_iff.2 h)]; rfl
set_option linter.unusedSimpArgs false in
set_option maxRecDepth 100000 in
set_option maxHeartbeats 4000000 in
theorem rspread_any (p q : Option Addr) (n c m d : Nat) (R W : List Int) (w : World) (hR : InI w p n c R) (hW : InI w q m d W) :
    Calls Try.prog 31 #[.agg #[.slice p n c, .slice q m d]] w fun e w' => e = .returned (.tuple #[.int .i64 (spreadA R W), .int .i64 (spreadB R W)]) ∧ Below w.heap.size w w' := by
  have HL : Hid (R.length = n) := hR.len
  have HLW : Hid (W.length = m) := hW.len
  have hb0 := below_alloc w (.cells #[.slice p n c, .slice q m d] 25)
  have b0 := Blk.new' w 25 #[.slice p n c, .slice q m d]
  cases hok : okPool R W with
  | false =>
    have HE : Hid (checkE R W = 40) := checkE_no hok
    have HA : Hid (spreadA R W = 0) := by show _ = _; unfold spreadA; rw [hok]; rfl
    have HB : Hid (spreadB R W = 0) := by show _ = _; unfold spreadB; rw [hok]; rfl
    go_enter Try.func31, Try.ntmps31
    go_wp2_with (go_at_call 15; refine (rcheck_any p q n c _ d R W _ (hR.below hb0) (hW.below hb0)).mono ?_; rintro e w1 ⟨rfl, hb1⟩; rw [HE.out])
    go_ret2
    rw [HA.out, HB.out]
    exact ⟨rfl, bt hb0 hb1⟩
  | true =>
    have HE : Hid (checkE R W = 0) := checkE_ok hok
    have hnm : n = m := by have := (okPool_iff.1 hok).1.1; rw [HL.out, HLW.out] at this; exact this
    subst hnm
    have HN : Hid (16 ≤ n ∧ n ≤ 256) := by have := (okPool_iff.1 hok).1; rw [HL.out] at this; exact ⟨by omega, by omega⟩
    have hn := HN.out
    have HWW : Hid (∀ i, i < n → 0 ≤ eI W i ∧ eI W i ≤ 16777215) := fun i hi => okWear_iff.1 (eI_all.1 (okPool_iff.1 hok).2.2 i (by rw [HLW.out]; exact hi))
    have HA : Hid (spreadA R W = minL (goodW R W n)) := by show _ = _; unfold spreadA; rw [hok, HL.out]; rfl
    have HB : Hid (spreadB R W = maxL (goodW R W n)) := by show _ = _; unfold spreadB; rw [hok, HL.out]; rfl
    clear hok
    go_enter Try.func31, Try.ntmps31
    go_upto_region 4 with (go_at_call 15; refine (rcheck_any p q n c _ d R W _ (hR.below hb0) (hW.below hb0)).mono ?_; rintro e w1 ⟨rfl, hb1⟩; rw [HE.out])
    have b1 := b0.kept hb1
    have hB1 := bt hb0 hb1
    have hR1 := hR.below hB1
    have hW1 := hW.below hB1
    obtain ⟨bp, op, rfl, hltp, hcp⟩ := hR1.at' (by omega)
    obtain ⟨bq, oq, rfl, hltq, hcq⟩ := hW1.at' (by omega)
    have HC : Hid (∀ i, i < n → w1.cell? ⟨bp, op + i, none⟩ = some (.int .i64 (eI R i))) := hcp
    have HQ : Hid (∀ i, i < n → w1.cell? ⟨bq, oq + i, none⟩ = some (.int .i64 (eI W i))) := hcq
    have z0 := b1.cell' (i := 0) rfl
    have z1 := b1.cell' (i := 1) rfl
    clear hR hW hb0 b0 hb1 hR1 hcp hW1 hcq
    go_wp2_with fail
    go_loop [4, 5, 6] (fun a b i => ∃ k : Nat, k ≤ n ∧ i = .int .i64 k ∧ a = .int .i64 (leastO (goodW R W k)) ∧ b = .int .i64 (maxL (goodW R W k))) (fun _ _ i => n - (intOf i).toNat)
    case atStart => exact ⟨0, Nat.zero_le _, rfl, rfl, rfl⟩
    case round =>
      obtain ⟨k, hk, rfl, rfl, rfl⟩ := hrel
      have HNN : Hid (∀ y ∈ goodW R W k, 0 ≤ y) := goodW_nn (fun i hi => (HWW.out i (by omega)).1)
      by_cases hlt : k < n
      · have ck := HC.out k hlt
        have cw := HQ.out k hlt
        have hwk := HWW.out k hlt
        have hk1 : (k : Int) < (n : Int) := by omega
        by_cases hr : eI R k = 6
        · have HI : Hid (goodW R W (k + 1) = goodW R W k) := goodW_no hr
          rw [hr] at ck
          clear hr
          have HA1 : Hid (leastO (goodW R W (k + 1)) = leastO (goodW R W k)) := by show _ = _; rw [HI.out]
          have HB1 : Hid (maxL (goodW R W (k + 1)) = maxL (goodW R W k)) := by show _ = _; rw [HI.out]
          clear HI HNN
          generalize leastO (goodW R W k) = ls at *
          generalize maxL (goodW R W k) = ms at *
          go_wp2
          go_round
          case rel => exact ⟨k + 1, by omega, by go_num, val_int HA1.out.symm, val_int HB1.out.symm⟩
          case measure => simp [intOf]; omega
        · have HI : Hid (goodW R W (k + 1) = goodW R W k ++ [eI W k]) := goodW_yes hr
          have hrb : (eI R k == 6) = false := by simpa using hr
          have HA1 : Hid (leastO (goodW R W (k + 1)) = if leastO (goodW R W k) < 0 ∨ eI W k < leastO (goodW R W k) then eI W k else leastO (goodW R W k)) := by show _ = _; rw [HI.out]; exact least_snoc HNN.out _
          have HB1 : Hid (maxL (goodW R W (k + 1)) = if maxL (goodW R W k) < eI W k then eI W k else maxL (goodW R W k)) := by show _ = _; rw [HI.out]; exact most_snoc _ hwk.1
          clear HI HNN hr
          generalize leastO (goodW R W k) = ls at *
          generalize maxL (goodW R W k) = ms at *
          generalize eI W k = wk at *
          by_cases h3 : ms < wk
          · have HB2 : Hid (maxL (goodW R W (k + 1)) = wk) := by show _ = _; rw [HB1.out, if_pos h3]
            clear HB1
            by_cases h1 : ls < 0
            · have HA2 : Hid (leastO (goodW R W (k + 1)) = wk) := by show _ = _; rw [HA1.out, if_pos (.inl h1)]
              clear HA1
              go_wp2
              go_round
              case rel => exact ⟨k + 1, by omega, by go_num, val_int HA2.out.symm, val_int HB2.out.symm⟩
              case measure => simp [intOf]; omega
            · by_cases h2 : wk < ls
              · have HA2 : Hid (leastO (goodW R W (k + 1)) = wk) := by show _ = _; rw [HA1.out, if_pos (.inr h2)]
                clear HA1
                go_wp2
                go_round
                case rel => exact ⟨k + 1, by omega, by go_num, val_int HA2.out.symm, val_int HB2.out.symm⟩
                case measure => simp [intOf]; omega
              · have HA2 : Hid (leastO (goodW R W (k + 1)) = ls) := by show _ = _; rw [HA1.out, if_neg (fun h => h.elim h1 h2)]
                clear HA1
                go_wp2
                go_round
                case rel => exact ⟨k + 1, by omega, by go_num, val_int HA2.out.symm, val_int HB2.out.symm⟩
                case measure => simp [intOf]; omega
          · have HB2 : Hid (maxL (goodW R W (k + 1)) = ms) := by show _ = _; rw [HB1.out, if_neg h3]
            clear HB1
            by_cases h1 : ls < 0
            · have HA2 : Hid (leastO (goodW R W (k + 1)) = wk) := by show _ = _; rw [HA1.out, if_pos (.inl h1)]
              clear HA1
              go_wp2
              go_round
              case rel => exact ⟨k + 1, by omega, by go_num, val_int HA2.out.symm, val_int HB2.out.symm⟩
              case measure => simp [intOf]; omega
            · by_cases h2 : wk < ls
              · have HA2 : Hid (leastO (goodW R W (k + 1)) = wk) := by show _ = _; rw [HA1.out, if_pos (.inr h2)]
                clear HA1
                go_wp2
                go_round
                case rel => exact ⟨k + 1, by omega, by go_num, val_int HA2.out.symm, val_int HB2.out.symm⟩
                case measure => simp [intOf]; omega
              · have HA2 : Hid (leastO (goodW R W (k + 1)) = ls) := by show _ = _; rw [HA1.out, if_neg (fun h => h.elim h1 h2)]
                clear HA1
                go_wp2
                go_round
                case rel => exact ⟨k + 1, by omega, by go_num, val_int HA2.out.symm, val_int HB2.out.symm⟩
                case measure => simp [intOf]; omega
      · obtain rfl : k = n := by omega
        by_cases he : goodW R W k = []
        · have HA2 : Hid (spreadA R W = 0) := by show _ = _; rw [HA.out, he]; rfl
          have HB2 : Hid (spreadB R W = 0) := by show _ = _; rw [HB.out, he]; rfl
          rw [leastO_nil he, he]
          show _
          clear HA HB HNN he
          go_wp2
          go_ret2
          rw [HA2.out, HB2.out]
          exact ⟨rfl, hB1⟩
        · have hm := minL_nn HNN.out
          have HA2 := HA
          have HB2 := HB
          rw [leastO_some he]
          clear HNN he
          generalize minL (goodW R W k) = ls at *
          generalize maxL (goodW R W k) = ms at *
          have hm2 : ¬ ls < 0 := by omega
          go_wp2
          go_ret2
          rw [HA2.out, HB2.out]
          exact ⟨rfl, hB1⟩
end Go.Proofs.Ytigkfmdhmonjlaa
