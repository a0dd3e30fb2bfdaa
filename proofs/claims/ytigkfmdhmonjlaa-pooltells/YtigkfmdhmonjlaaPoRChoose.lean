/-
  What the reference's Choose answers.
-/
import Derived.Test.YtigkfmdhmonjlaaPoTellsP
import Derived.Test.YtigkfmdhmonjlaaPoRCheck
namespace Go.Proofs.Ytigkfmdhmonjlaa
open Go.RowKit
set_option linter.unusedSimpArgs false in
set_option maxRecDepth 100000 in
set_option maxHeartbeats 4000000 in
theorem rchoose_any (p q : Option Addr) (n c m d : Nat) (R W : List Int) (w : World) (hR : InI w p n c R) (hW : InI w q m d W) :
    Calls Try.prog 28 #[.agg #[.slice p n c, .slice q m d]] w fun e w' => e = .returned (.tuple #[.int .i64 (numO (choiceN isLess R W 1)), .bool (choiceN isLess R W 1).isSome]) ∧ Below w.heap.size w w' := by
  have HL : Hid (R.length = n) := hR.len
  have HLW : Hid (W.length = m) := hW.len
  have hb0 := below_alloc w (.cells #[.slice p n c, .slice q m d] 25)
  have b0 := Blk.new' w 25 #[.slice p n c, .slice q m d]
  cases hok : okPool R W with
  | false =>
    have HE : Hid (checkE R W = 40) := checkE_no hok
    have HC : Hid (choiceN isLess R W 1 = none) := choiceN_no hok
    go_enter Try.func28, Try.ntmps28
    go_wp2_with (go_at_call 15; refine (rcheck_any p q n c _ d R W _ (hR.below hb0) (hW.below hb0)).mono ?_; rintro e w1 ⟨rfl, hb1⟩; rw [HE.out])
    go_ret2
    rw [HC.out]
    exact ⟨rfl, bt hb0 hb1⟩
  | true =>
    have HE : Hid (checkE R W = 0) := checkE_ok hok
    have hnm : n = m := by have := (okPool_iff.1 hok).1.1; rw [HL.out, HLW.out] at this; exact this
    subst hnm
    have HN : Hid (16 ≤ n ∧ n ≤ 256) := by have := (okPool_iff.1 hok).1; rw [HL.out] at this; exact ⟨by omega, by omega⟩
    have hn := HN.out
    have HWW : Hid (∀ i, i < n → 0 ≤ eI W i ∧ eI W i ≤ 16777215) := fun i hi => okWear_iff.1 (eI_all.1 (okPool_iff.1 hok).2.2 i (by rw [HLW.out]; exact hi))
    have HS : Hid (choiceN isLess R W 1 = pickN isLess W (idxTo R 1 n)) := by show _ = _; rw [choiceN_ok hok, HL.out]
    clear hok
    go_enter Try.func28, Try.ntmps28
    go_upto_region 4 with (go_at_call 15; refine (rcheck_any p q n c _ d R W _ (hR.below hb0) (hW.below hb0)).mono ?_; rintro e w1 ⟨rfl, hb1⟩; rw [HE.out])
    have b1 := b0.kept hb1
    have hB1 := bt hb0 hb1
    have hR1 := hR.below hB1
    have hW1 := hW.below hB1
    obtain ⟨bp, op, rfl, hltp, hcp⟩ := hR1.at' (by omega)
    obtain ⟨bq, oq, rfl, hltq, hcq⟩ := hW1.at' (by omega)
    have HC : Hid (∀ i, i < n → w1.cell? ⟨bp, op + i, none⟩ = some (.int .i64 (eI R i))) := hcp
    have HQ : Hid (∀ i, i < n → w1.cell? ⟨bq, oq + i, none⟩ = some (.int .i64 (eI W i))) := hcq
    have z0 := b1.cell' (i := 0) rfl
    have z1 := b1.cell' (i := 1) rfl
    clear hR hW hb0 b0 hb1 hR1 hcp hW1 hcq
    go_wp2_with fail
    go_loopw [4, 5] (fun s i wr => ∃ k : Nat, k ≤ n ∧ i = .int .i64 k ∧ s = .int .i64 (negO (pickN isLess W (idxTo R 1 k))) ∧ ∃ j, wr = w1.drewN j) (fun _ i _ => n - (intOf i).toNat)
    case atStart => exact ⟨0, Nat.zero_le _, rfl, rfl, 0, rfl⟩
    case round =>
      obtain ⟨k, hk, rfl, rfl, j, rfl⟩ := hrel
      obtain ⟨s, hs⟩ : ∃ s, negO (pickN isLess W (idxTo R 1 k)) = s := ⟨_, rfl⟩
      rw [hs]
      have Hs : Hid (negO (pickN isLess W (idxTo R 1 k)) = s) := hs
      clear hs
      by_cases hlt : k < n
      · have ck := HC.out k hlt
        have cw := HQ.out k hlt
        have hk1 : (k : Int) < (n : Int) := by omega
        by_cases hr : eI R k = 1
        · have HP : Hid (pickN isLess W (idxTo R 1 (k + 1)) = stepN isLess W (pickN isLess W (idxTo R 1 k)) k) := pickN_yes hr
          rw [hr] at ck
          cases ho : pickN isLess W (idxTo R 1 k) with
          | none =>
            obtain rfl : -1 = s := by rw [← Hs.out, ho]; rfl
            have HP2 : Hid (pickN isLess W (idxTo R 1 (k + 1)) = some k) := by show _ = _; rw [HP.out, ho]; rfl
            have hd : decide ((-1 : Int) < 0) = true := by decide
            clear HP Hs ho hr
            go_wp2
            go_quiet (fail)
            go_wp2
            go_roundw
            case rel => exact ⟨k + 1, by omega, by go_num, by rw [HP2.out]; rfl, _, rfl⟩
            case measure => simp [intOf]; omega
          | some b =>
            obtain rfl : (b : Int) = s := by rw [← Hs.out, ho]; rfl
            have hbk := pickN_lt ho
            have cb := HQ.out b (by omega)
            have hd : decide ((b : Int) < 0) = false := decide_eq_false (by omega)
            have hb1 : (b : Int) < (n : Int) := by omega
            by_cases hl : eI W k < eI W b
            · have HP2 : Hid (pickN isLess W (idxTo R 1 (k + 1)) = some k) := by show _ = _; rw [HP.out, ho]; exact stepN_yes (less_yes hl)
              have hd2 : decide (eI W k < eI W b) = true := decide_eq_true hl
              clear HP Hs ho hr hl
              go_wp2
              go_quiet (fail)
              go_wp2
              go_roundw
              case rel => exact ⟨k + 1, by omega, by go_num, by rw [HP2.out]; rfl, _, rfl⟩
              case measure => simp [intOf]; omega
            · have HP2 : Hid (pickN isLess W (idxTo R 1 (k + 1)) = some b) := by show _ = _; rw [HP.out, ho]; exact stepN_no (less_no hl)
              have hd2 : decide (eI W k < eI W b) = false := decide_eq_false hl
              clear HP Hs ho hr hl
              go_wp2
              go_quiet (fail)
              go_wp2
              go_roundw
              case rel => exact ⟨k + 1, by omega, by go_num, by rw [HP2.out]; rfl, _, rfl⟩
              case measure => simp [intOf]; omega
        · have HP : Hid (pickN isLess W (idxTo R 1 (k + 1)) = pickN isLess W (idxTo R 1 k)) := pickN_no hr
          have hrb : (eI R k == 1) = false := by simpa using hr
          clear hr
          go_wp2
          go_quiet (fail)
          go_wp2
          go_roundw
          case rel => exact ⟨k + 1, by omega, by go_num, by rw [HP.out, Hs.out], _, rfl⟩
          case measure => simp [intOf]; omega
      · obtain rfl : k = n := by omega
        cases ho : pickN isLess W (idxTo R 1 k) with
        | none =>
          obtain rfl : -1 = s := by rw [← Hs.out, ho]; rfl
          have HO : Hid (choiceN isLess R W 1 = none) := by show _ = _; rw [HS.out, ho]
          clear Hs ho HS
          go_wp2
          go_ret2
          rw [HO.out]
          exact ⟨rfl, below_drewN hB1 _⟩
        | some b =>
          obtain rfl : (b : Int) = s := by rw [← Hs.out, ho]; rfl
          have HO : Hid (choiceN isLess R W 1 = some b) := by show _ = _; rw [HS.out, ho]
          have hd : ¬ (b : Int) < 0 := by omega
          clear Hs ho HS
          go_wp2
          go_ret2
          rw [HO.out]
          exact ⟨rfl, below_drewN hB1 _⟩
end Go.Proofs.Ytigkfmdhmonjlaa
