/-
  The law ExtentRanges, walked.
-/
import Derived.Test.YtmboohadindlfaaXtT11
import Derived.Test.YtmboohadindlfaaXtHl
import Derived.Test.YtmboohadindlfaaXtT3
import Derived.Test.YtmboohadindlfaaXtE
import Derived.Test.YtmboohadindlfaaXtRK
namespace Go.Proofs.Ytmboohadindlfaa
open Go.RowKit
theorem sumH_take {l : List Hol} (h : ∀ x ∈ l, 0 < x.l) (k : Nat) : 0 ≤ sumH (l.take k) ∧ sumH (l.take k) ≤ sumH l := by
  induction l generalizing k with
  | nil => simp [sumH]
  | cons x l ih =>
    have hx := h x List.mem_cons_self
    have hl := fun y hy => h y (List.mem_cons_of_mem _ hy)
    cases k with
    | zero =>
      have := (ih hl 0)
      simp only [List.take_zero, sumH, List.map_nil, List.sum_nil, List.map_cons, List.sum_cons] at *
      omega
    | succ k =>
      have := ih hl k
      simp only [List.take_succ_cons, sumH, List.map_cons, List.sum_cons] at *
      omega
set_option linter.unusedSimpArgs false in
set_option linter.unusedVariables false in
set_option maxRecDepth 100000 in
set_option maxHeartbeats 8000000 in
theorem ranges_walk (p : Option Addr) (n c : Nat) (l : List Ext) (z m : Nat) (hz : (z : Int) ≤ 65535) (hm : (m : Int) ≤ 65535) (w : World) (h : InE w p n c l) :
    Calls Try.prog 7 #[.slice p n c, .int .u16 (z : Int), .int .u16 (m : Int)] w fun x w' => x = .returned (.bool true) ∧ Below w.heap.size w w' := by
  have HLN : Hid (l.length = n) := h.len
  have hroom := h.room
  go_enter Try.func7, Try.ntmps7
  go_wp2_with fail
  refine (live_any _).mono ?_
  rintro e9 w1 ⟨rfl, hb1⟩
  have hf := few_one w1.heap.size p n c (w1.alloc (.cells #[.slice p n c] 22)) ((Blk.new' w1 22 #[.slice p n c]).cell' (i := 0) rfl) hroom
  have hB := below_al hb1 (.cells #[.slice p n c] 22)
  clear hb1
  by_cases h200 : n ≤ 200
  rotate_left
  · rw [decide_eq_false h200] at hf
    go_wp2_with fail
    refine hf.mono ?_
    rintro e9 w2 ⟨rfl, rfl⟩
    go_wp2
    go_ret
    exact ⟨rfl, hB⟩
  rw [decide_eq_true h200] at hf
  have hn : n ≤ 100000 := by omega
  have HN2 : Hid (n ≤ 200) := h200
  clear h200
  go_wp2_with fail
  refine hf.mono ?_
  rintro e9 w2 ⟨rfl, hw2⟩
  rw [← hw2] at hB
  clear hw2 hf
  have hrk := fun W hW => rcheck_any p n c l W hW
  cases hc : chkB l with
  | false =>
    simp only [chkE_no hc] at hrk
    go_wp2_with fail
    refine (hrk _ (h.below hB)).mono ?_
    rintro e9 w3 ⟨rfl, hb3⟩
    go_wp2
    go_ret
    exact ⟨rfl, bt hB hb3⟩
  | true =>
  simp only [chkE_ok hc] at hrk
  have hOrd := chkB_ord hc
  have HTK : Hid (takenL l = l) := by show _ = _; simp [takenL, hc]
  go_wp2_with fail
  refine (hrk _ (h.below hB)).mono ?_
  rintro e9 w3 ⟨rfl, hb3⟩
  replace hB := bt hB hb3
  clear hb3 hrk hc
  have h3 := h.below hB
  obtain ⟨b, hbd⟩ : ∃ b : Int, min ((z : Int) + (m : Int)) 65536 = b := ⟨_, rfl⟩
  have hb1 : (z : Int) ≤ b := by omega
  have hb2 : b ≤ 65536 := by omega
  have hmx : max (z : Int) 0 = (z : Int) := by omega
  have hmn : min b 65536 = b := by omega
  have hwz : IntKind.i64.wrap ((z : Int) + (m : Int)) = (z : Int) + (m : Int) := by rw [IntKind.wrap_i64]; omega
  have cR := lruns_any p n c l (z : Int) b w3 h3 hn
  have cH := fun W (hW : InE W p n c l) => lholes_any p n c l (z : Int) b W hW hn
  rw [hmx, hmn] at cH
  rw [HTK.out] at cR cH
  have HRO : Hid (∀ e ∈ runsL (z : Int) b l, oneB e = true) := runs_one (fun e he => hOrd.one e he)
  have hTot := ranges_total hOrd (z : Int) b
  have HHP : Hid (∀ x ∈ holesL b (z : Int) (runsL (z : Int) b l), 0 < x.l ∧ (z : Int) ≤ x.a ∧ x.a + x.l ≤ b) := fun x hx => by
    obtain ⟨g1, g2, g3, _⟩ := holes_mem (hOrd.within _ _) hx
    exact ⟨g2, g1, g3⟩
  have HHA : Hid (∀ x ∈ holesL b (z : Int) (runsL (z : Int) b l), ∃ k, atL l x.a = (0, k, false) ∧ x.l ≤ k) := fun x hx => hole_at hOrd hb2 hx
  have HOL : Hid (∀ e ∈ l, oneB e = true) := fun e he => hOrd.one e he
  have HRA : Hid (runsL 0 65536 l = l) := runs_all HOL.out
  have hbz : max 0 (b - (z : Int)) = b - (z : Int) := by omega
  rw [hbz] at hTot
  have HTot : Hid (sumE (runsL (z : Int) b l) + sumH (holesL b (z : Int) (runsL (z : Int) b l)) = b - (z : Int)) := hTot
  clear hTot hOrd hmx hmn
  generalize holesL b (z : Int) (runsL (z : Int) b l) = H at *
  generalize runsL (z : Int) b l = R at *
  go_wp2_with fail
  try rw [hbd]
  refine cR.mono ?_
  rintro e9 w4 ⟨p4, n4, c4, rfl, i4, hn4, hb4⟩
  have HRL : Hid (R.length = n4) := i4.len
  replace hB := bt hB hb4
  clear hb4 cR h3
  go_wp2
  go_loopw [9, 44] (fun s i wr => ∃ (k : Nat), k ≤ n4 ∧ i = .int .i64 k ∧ s = .int .i64 (sumE (R.take k)) ∧ Below w4.heap.size w4 wr) (fun _ i _ => n4 - (intOf i).toNat)
  case atStart => exact ⟨0, Nat.zero_le _, rfl, rfl, Below.refl _ _⟩
  case round =>
    obtain ⟨k, hk, rfl, rfl, hb⟩ := hrel
    by_cases hlt : k < n4
    · have hki : (k : Int) < (n4 : Int) := by omega
      obtain ⟨bb, oo, hpe, hbl, hc⟩ := (i4.below hb).at' (by omega)
      subst hpe
      obtain ⟨e0, e1, e2⟩ := hc k hlt
      have hks : k < R.length := by rw [HRL.out]; exact hlt
      have HU : Hid (sumE (R.take (k + 1)) = sumE (R.take k) + (eE R k).ln) := by show _ = _; rw [takeE_succ R k hks, sumE_snoc]
      have hsb := sum_bound (l := R.take k) (fun e he => HRO.out e (List.mem_of_mem_take he))
      have hsl : ((R.take k).length : Int) ≤ 100000 := by rw [List.length_take]; have := HN2.out; omega
      have heo := oneB_iff.1 (HRO.out _ (eE_mem hks))
      clear hc hbl
      generalize eE R k = e at *
      generalize sumE (R.take k) = s at *
      have hw : IntKind.i64.wrap (s + e.ln) = s + e.ln := by rw [IntKind.wrap_i64]; omega
      have hb9 := hb.trans ((below_alloc _ (.cells #[.int .i64 e.lo, .int .i64 e.ln, .int .i64 e.ph] 31)).mono hb.size)
      clear hsb hsl heo
      go_wp2
      go_roundw
      case rel => exact ⟨k + 1, by omega, by go_num, by rw [HU.out], hb9⟩
      case measure => simp [intOf]; omega
    · obtain rfl : k = n4 := by omega
      have hkn : ¬ (k : Int) < (k : Int) := by omega
      have HF : Hid (R.take k = R) := List.take_of_length_le (by rw [HRL.out]; exact Nat.le_refl _)
      rw [HF.out]
      have hB5 := bt hB hb
      have HS0 : Hid (0 ≤ sumE R) := (sum_bound HRO.out).1
      clear i4 HRL HRO HF hB hb
      generalize sumE R = sr at *
      go_wp2_with fail
      refine (cH _ (h.below hB5)).mono ?_
      rintro e9 w6 ⟨p6, n6, c6, rfl, i6, hn6, hb6⟩
      have HHL : Hid (H.length = n6) := i6.len
      have hB6 := bt hB5 hb6
      clear hb6 cH hB5
      have hcA := fun (W : World) (x : Int) (hW : InE W p n c l) => At_any p n c l x W hW hn
      go_wp2
      go_loopw [9, 58] (fun s i wr => ∃ (k : Nat), k ≤ n6 ∧ i = .int .i64 k ∧ s = .int .i64 (sr + sumH (H.take k)) ∧ Below w6.heap.size w6 wr) (fun _ i _ => n6 - (intOf i).toNat)
      case atStart => exact ⟨0, Nat.zero_le _, rfl, by simp [sumH], Below.refl _ _⟩
      case round =>
        obtain ⟨j, hj, rfl, rfl, hb⟩ := hrel
        by_cases hlt : j < n6
        · have hki : (j : Int) < (n6 : Int) := by omega
          obtain ⟨bb, oo, hpe, hbl, hcc⟩ := (i6.below hb).at' (by omega)
          subst hpe
          obtain ⟨e0, e1⟩ := hcc j hlt
          have hks : j < H.length := by rw [HHL.out]; exact hlt
          have HU : Hid (sumH (H.take (j + 1)) = sumH (H.take j) + (eH H j).l) := by show _ = _; rw [takeH_succ H j hks, sumH_snoc]
          have hmem := eH_mem hks
          have hpos := HHP.out _ hmem
          obtain ⟨kk, hat, hkk⟩ := HHA.out _ hmem
          have hsb := sumH_take (fun x hx => (HHP.out x hx).1) j
          have hsb2 := sumH_take (fun x hx => (HHP.out x hx).1) (j + 1)
          rw [HU.out] at hsb2
          have htt := HTot.out
          have hs0 := HS0.out
          have hcat := fun W hW => hcA W (eH H j).a hW
          rw [atR_in (by omega) (by omega), HTK.out, hat] at hcat
          dsimp only [atV] at hcat
          clear hcc hbl hat hmem
          generalize eH H j = x at *
          generalize sumH (H.take j) = s at *
          have hw : IntKind.i64.wrap (sr + s + x.l) = sr + s + x.l := by rw [IntKind.wrap_i64]; omega
          have hba := below_alloc wr (.cells #[.int .i64 x.a, .int .i64 x.l] 38)
          have bx := Blk.new' wr 38 #[.int .i64 x.a, .int .i64 x.l]
          have hb9 := hb.trans (hba.mono hb.size)
          have hkn : ¬ kk < x.l := by omega
          have hinE := h.below (bt hB6 hb9)
          clear hsb hsb2 htt hs0 hpos
          go_wp2_with fail
          refine (hcat _ hinE).mono ?_
          rintro e9 w8 ⟨rfl, hb8⟩
          have bx8 := bx.kept hb8
          have x0 := bx8.cell' (i := 0) rfl
          have x1 := bx8.cell' (i := 1) rfl
          go_wp2
          go_roundw
          case rel => exact ⟨j + 1, by omega, by go_num, by rw [HU.out]; congr 1; omega, hb9.trans (hb8.mono hb9.size)⟩
          case measure => simp [intOf]; omega
        · obtain rfl : j = n6 := by omega
          have hkn : ¬ (j : Int) < (j : Int) := by omega
          have HF : Hid (H.take j = H) := List.take_of_length_le (by rw [HHL.out]; exact Nat.le_refl _)
          rw [HF.out]
          have HTT : Hid (sr + sumH H = b - (z : Int)) := HTot.out
          have hB7 := bt hB6 hb
          rw [HTT.out]
          clear i6 HHL HHP HHA HTot HF HS0 hcA hB6 hb
          have cR2 := fun W (hW : InE W p n c l) => lruns_any p n c l 0 65536 W hW hn
          rw [HTK.out, HRA.out] at cR2
          have cB := fun W (hW : InE W p n c l) => Blocks_any p n c l W hW hn
          rw [HTK.out] at cB
          go_wp2_with fail
          refine (cR2 _ (h.below hB7)).mono ?_
          rintro e9 w9 ⟨p9, n9, c9, rfl, i9, hn9, hb9⟩
          have HL9 : Hid (l.length = n9) := i9.len
          have hB9 := bt hB7 hb9
          clear hb9 cR2 hB7
          go_wp2
          go_loopw [10, 85] (fun s i wr => ∃ (k : Nat), k ≤ n9 ∧ i = .int .i64 k ∧ s = .int .i64 (sumE (l.take k)) ∧ Below w9.heap.size w9 wr) (fun _ i _ => n9 - (intOf i).toNat)
          case atStart => exact ⟨0, Nat.zero_le _, rfl, rfl, Below.refl _ _⟩
          case round =>
            obtain ⟨k, hk, rfl, rfl, hb⟩ := hrel
            by_cases hlt : k < n9
            · have hki : (k : Int) < (n9 : Int) := by omega
              obtain ⟨bb, oo, hpe, hbl, hc⟩ := (i9.below hb).at' (by omega)
              subst hpe
              obtain ⟨e0, e1, e2⟩ := hc k hlt
              have hks : k < l.length := by rw [HL9.out]; exact hlt
              have HU : Hid (sumE (l.take (k + 1)) = sumE (l.take k) + (eE l k).ln) := by show _ = _; rw [takeE_succ l k hks, sumE_snoc]
              have hsb := sum_bound (l := l.take k) (fun e he => HOL.out e (List.mem_of_mem_take he))
              have hsl : ((l.take k).length : Int) ≤ 100000 := by rw [List.length_take]; have := HN2.out; omega
              have heo := oneB_iff.1 (HOL.out _ (eE_mem hks))
              clear hc hbl
              generalize eE l k = e at *
              generalize sumE (l.take k) = s at *
              have hw : IntKind.i64.wrap (s + e.ln) = s + e.ln := by rw [IntKind.wrap_i64]; omega
              have hb9 := hb.trans ((below_alloc _ (.cells #[.int .i64 e.lo, .int .i64 e.ln, .int .i64 e.ph] 31)).mono hb.size)
              clear hsb hsl heo
              go_wp2
              go_roundw
              case rel => exact ⟨k + 1, by omega, by go_num, by rw [HU.out], hb9⟩
              case measure => simp [intOf]; omega
            · obtain rfl : k = n9 := by omega
              have hkn : ¬ (k : Int) < (k : Int) := by omega
              have HF : Hid (l.take k = l) := List.take_of_length_le (by rw [HL9.out]; exact Nat.le_refl _)
              rw [HF.out]
              have hBa := bt hB9 hb
              have hmx0 : max (0 : Int) (b - (z : Int)) = b - (z : Int) := hbz
              have hwb : IntKind.i64.wrap (b - (z : Int)) = b - (z : Int) := by rw [IntKind.wrap_i64]; omega
              clear i9 HL9 HF
              generalize sumE l = sl at *
              go_wp2_with fail
              refine (cB _ (h.below hBa)).mono ?_
              rintro e9 wA ⟨rfl, hbA⟩
              go_wp2
              go_ret
              exact ⟨rfl, bt hBa hbA⟩
end Go.Proofs.Ytmboohadindlfaa
