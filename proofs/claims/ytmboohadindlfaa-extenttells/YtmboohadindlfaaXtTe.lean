/-
  The law ExtentTells, walked.
-/
import Derived.Test.YtmboohadindlfaaXtT11
import Derived.Test.YtmboohadindlfaaXtT5
import Derived.Test.YtmboohadindlfaaXtT3
import Derived.Test.YtmboohadindlfaaXtE
import Derived.Test.YtmboohadindlfaaXtRK
namespace Go.Proofs.Ytmboohadindlfaa
open Go.RowKit
theorem InE.one_len {w w' : World} {p q : Option Addr} {n m c d : Nat} {l : List Ext} (h : InE w p n c l) (k : InE w' q m d l) : m = n := k.len.symm.trans h.len
theorem InH.one_len {w w' : World} {p q : Option Addr} {n m c d : Nat} {l : List Hol} (h : InH w p n c l) (k : InH w' q m d l) : m = n := k.len.symm.trans h.len
set_option linter.unusedSimpArgs false in
set_option linter.unusedVariables false in
set_option maxRecDepth 100000 in
set_option maxHeartbeats 8000000 in
theorem tells_walk (p : Option Addr) (n c : Nat) (l : List Ext) (f t : Int) (w : World) (h : InE w p n c l) :
    Calls Try.prog 3 #[.slice p n c, .int .i64 f, .int .i64 t] w fun x w' => x = .returned (.bool true) ∧ Below w.heap.size w w' := by
  have HLN : Hid (l.length = n) := h.len
  have hroom := h.room
  go_enter Try.func3, Try.ntmps3
  go_wp2_with fail
  refine (live_any _).mono ?_
  rintro e9 w1 ⟨rfl, hb1⟩
  have hf := few_one w1.heap.size p n c (w1.alloc (.cells #[.slice p n c] 22)) ((Blk.new' w1 22 #[.slice p n c]).cell' (i := 0) rfl) hroom
  have hB := below_al hb1 (.cells #[.slice p n c] 22)
  clear hb1
  by_cases h200 : n ≤ 200
  rotate_left
  · rw [decide_eq_false h200] at hf
    go_wp2_with fail
    refine hf.mono ?_
    rintro e9 w2 ⟨rfl, rfl⟩
    go_wp2
    go_ret
    exact ⟨rfl, hB⟩
  rw [decide_eq_true h200] at hf
  have hn : n ≤ 100000 := by omega
  have HN2 : Hid (n ≤ 200) := h200
  clear h200
  go_wp2_with fail
  refine hf.mono ?_
  rintro e9 w2 ⟨rfl, hw2⟩
  rw [← hw2] at hB
  clear hw2 hf
  have cA := fun W (hW : InE W p n c l) => At_any p n c l f W hW hn
  have cRA := fun W (hW : InE W p n c l) => rAt_any p n c l f W hW hn
  generalize atR l f = r at *
  obtain ⟨r1, r2, r3⟩ := r
  simp only [atV] at cA cRA
  have cC := fun W (hW : InE W p n c l) => check_any p n c l W hW
  have cRC := fun W (hW : InE W p n c l) => rcheck_any p n c l W hW
  have cB := fun W (hW : InE W p n c l) => Blocks_any p n c l W hW hn
  have cRB := fun W (hW : InE W p n c l) => rBlocks_any p n c l W hW hn
  have cE := fun W (hW : InE W p n c l) => End_any p n c l W hW hn
  have cRE := fun W (hW : InE W p n c l) => rEnd_any p n c l W hW hn
  generalize chkE l = ck at *
  generalize sumE (takenL l) = sm at *
  generalize endL (takenL l) = en at *
  go_wp2_with fail
  refine (cA _ (h.below hB)).mono ?_
  rintro e9 w3 ⟨rfl, hb3⟩
  replace hB := bt hB hb3
  clear hb3 cA
  go_wp2_with fail
  refine (cRA _ (h.below hB)).mono ?_
  rintro e9 w3 ⟨rfl, hb3⟩
  replace hB := bt hB hb3
  clear hb3 cRA
  go_wp2_with fail
  refine (cC _ (h.below hB)).mono ?_
  rintro e9 w3 ⟨rfl, hb3⟩
  replace hB := bt hB hb3
  clear hb3 cC
  go_wp2_with fail
  refine (cRC _ (h.below hB)).mono ?_
  rintro e9 w3 ⟨rfl, hb3⟩
  replace hB := bt hB hb3
  clear hb3 cRC
  go_wp2_with fail
  refine (cB _ (h.below hB)).mono ?_
  rintro e9 w3 ⟨rfl, hb3⟩
  replace hB := bt hB hb3
  clear hb3 cB
  go_wp2_with fail
  refine (cRB _ (h.below hB)).mono ?_
  rintro e9 w3 ⟨rfl, hb3⟩
  replace hB := bt hB hb3
  clear hb3 cRB
  go_wp2_with fail
  refine (cE _ (h.below hB)).mono ?_
  rintro e9 w3 ⟨rfl, hb3⟩
  replace hB := bt hB hb3
  clear hb3 cE
  go_wp2_with fail
  refine (cRE _ (h.below hB)).mono ?_
  rintro e9 w3 ⟨rfl, hb3⟩
  replace hB := bt hB hb3
  clear hb3 cRE
  go_upto_region 10 with fail
  go_loopw [71] (fun i wr => ∃ k : Nat, k ≤ n ∧ i = .int .i64 (k : Int) ∧ Below w.heap.size w wr) (fun i _ => n - (intOf i).toNat)
  case atStart => exact ⟨0, Nat.zero_le _, rfl, hB⟩
  case round =>
    obtain ⟨k, hk, rfl, hbel⟩ := hrel
    by_cases hlt : k < n
    · have hki : (k : Int) < (n : Int) := by omega
      have hin := h.below hbel
      obtain ⟨b, o, hpe, hbl, hcell⟩ := hin.at' (by omega)
      subst hpe
      obtain ⟨g0, g1, g2⟩ := hcell k hlt
      clear hcell
      generalize eE l k = x at *
      have bl := Blk.new' wr 31 #[.int .i64 x.lo, .int .i64 x.ln, .int .i64 x.ph]
      have hba := below_alloc wr (.cells #[.int .i64 x.lo, .int .i64 x.ln, .int .i64 x.ph] 31)
      go_upto_region 12 with fail
      generalize wr.alloc (.cells #[.int .i64 x.lo, .int .i64 x.ln, .int .i64 x.ph] 31) = wl at *
      refine wp_region_noPanic ?_
      refine wp_region_held_drew (S := (fun Y => Below wl.heap.size wl Y)) (by kernel_rfl) (Below.refl _ _).drew (fun hHeld => ?_)
      refine wpAnyH_take (i := 0) (v := ?_) rfl (by kernel_rfl) (by kernel_rfl) (by kernel_rfl) (fun _ _ _ h => h) (Or.inl ⟨by rfl, ?_⟩) hHeld ?_
      rotate_left
      · intro w' hSw; try dsimp only at hSw
        obtain ⟨f0, f1, f2⟩ : w'.cell? ⟨wr.heap.size, 0, none⟩ = some (.int .i64 x.lo) ∧ w'.cell? ⟨wr.heap.size, 1, none⟩ = some (.int .i64 x.ln) ∧ w'.cell? ⟨wr.heap.size, 2, none⟩ = some (.int .i64 x.ph) := ⟨(bl.kept hSw).cell' rfl, (bl.kept hSw).cell' rfl, (bl.kept hSw).cell' rfl⟩
        go_simp; try (with_reducible rfl)
      try simp only [Act.put, List.getElem_toArray, List.getElem_cons_succ, List.getElem_cons_zero, List.setIfInBounds_toArray, List.set_cons_zero, List.set_cons_succ]
      refine wpAnyH_take (i := 2) (v := ?_) rfl (by kernel_rfl) (by kernel_rfl) (by kernel_rfl) (fun _ _ _ h => h) (Or.inl ⟨by rfl, ?_⟩) hHeld ?_
      rotate_left
      · intro w' hSw; try dsimp only at hSw
        obtain ⟨f0, f1, f2⟩ : w'.cell? ⟨wr.heap.size, 0, none⟩ = some (.int .i64 x.lo) ∧ w'.cell? ⟨wr.heap.size, 1, none⟩ = some (.int .i64 x.ln) ∧ w'.cell? ⟨wr.heap.size, 2, none⟩ = some (.int .i64 x.ph) := ⟨(bl.kept hSw).cell' rfl, (bl.kept hSw).cell' rfl, (bl.kept hSw).cell' rfl⟩
        go_simp; try (with_reducible rfl)
      try simp only [Act.put, List.getElem_toArray, List.getElem_cons_succ, List.getElem_cons_zero, List.setIfInBounds_toArray, List.set_cons_zero, List.set_cons_succ]
      refine wpAnyH_ready (rs := [1]) (by kernel_rfl) (by simp) ?_
      refine AllReadyH.cons rfl (fun K hK => ?_) AllReadyH.nil
      go_simp
      refine (one_any x _).mono ?_
      rintro e9 f1 ⟨rfl, hb1⟩
      refine hK.out _ _ (bt hHeld hb1) (fun hHeld => ?_)
      clear hK K
      try simp only [Act.put, List.getElem_toArray, List.getElem_cons_succ, List.getElem_cons_zero, List.setIfInBounds_toArray, List.set_cons_zero, List.set_cons_succ]
      refine wpAnyH_ready (rs := [3]) (by kernel_rfl) (by simp) ?_
      refine AllReadyH.cons rfl (fun K hK => ?_) AllReadyH.nil
      go_simp
      refine (rone_any x _).mono ?_
      rintro e9 f3 ⟨rfl, hb3⟩
      refine hK.out _ _ (bt hHeld hb3) (fun hHeld => ?_)
      clear hK K
      try simp only [Act.put, List.getElem_toArray, List.getElem_cons_succ, List.getElem_cons_zero, List.setIfInBounds_toArray, List.set_cons_zero, List.set_cons_succ]
      refine wpAnyH_take (i := 4) (v := ?_) rfl (by kernel_rfl) (by kernel_rfl) (by kernel_rfl) (fun _ _ _ h => h) (Or.inl ⟨by rfl, ?_⟩) hHeld ?_
      rotate_left
      · intro w' hSw; try dsimp only at hSw
        go_simp; try (with_reducible rfl)
      try simp only [Act.put, List.getElem_toArray, List.getElem_cons_succ, List.getElem_cons_zero, List.setIfInBounds_toArray, List.set_cons_zero, List.set_cons_succ]
      refine wpAnyH_done (by kernel_rfl) ?_ _
      refine NoPanic.normal ?_
      go_wp2
      go_roundw
      case rel => exact ⟨k + 1, by omega, by go_num, hbel.trans ((bt hba hHeld).mono hbel.size)⟩
      case measure => simp [intOf]; omega
    · have hkn : ¬ (k : Int) < (n : Int) := by omega
      have hin := h.below hbel
      go_wp2_with fail
      refine (lruns_any p n c l f t _ hin hn).mono ?_
      rintro e9 w4 ⟨p4, n4, c4, rfl, i4, hn4, hb4⟩
      go_wp2_with fail
      refine (rRuns_any p n c l f t _ (hin.below hb4) hn).mono ?_
      rintro e9 w5 ⟨p5, n5, c5, rfl, i5, hn5, hb5⟩
      have e45 := InE.one_len i4 i5
      subst e45
      go_wp2_with fail
      refine (equalE_yes p4 p5 _ c4 c5 _ _ (i4.below hb5) i5).mono ?_
      rintro e9 w6 ⟨rfl, hb6⟩
      have hB6 := bt (bt (bt hbel hb4) hb5) hb6
      have hin6 := h.below hB6
      clear i4 i5 hb4 hb5 hb6
      go_wp2_with fail
      refine (lholes_any p n c l f t _ hin6 hn).mono ?_
      rintro e9 w7 ⟨p7, n7, c7, rfl, i7, hn7, hb7⟩
      go_wp2_with fail
      refine (rHoles_any p n c l f t _ (hin6.below hb7) hn).mono ?_
      rintro e9 w8 ⟨p8, n8, c8, rfl, i8, hn8, hb8⟩
      have e78 := InH.one_len i7 i8
      subst e78
      go_wp2_with fail
      refine (equalH_yes p7 p8 _ c7 c8 _ _ (i7.below hb8) i8).mono ?_
      rintro e9 w9 ⟨rfl, hb9⟩
      go_wp2
      go_ret
      exact ⟨rfl, bt (bt (bt hB6 hb7) hb8) hb9⟩
end Go.Proofs.Ytmboohadindlfaa
