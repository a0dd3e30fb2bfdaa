/-
  What Blocks and End answer, and the reference's.
-/
import Derived.Test.YtmboohadindlfaaXtRQ
namespace Go.Proofs.Ytmboohadindlfaa
open Go.RowKit
theorem sum_bound {l : List Ext} (h : ∀ e ∈ l, oneB e = true) : 0 ≤ sumE l ∧ sumE l ≤ 4096 * (l.length : Int) := by
  induction l with
  | nil => simp [sumE]
  | cons e l ih =>
    have ih := ih (fun x hx => h x (List.mem_cons_of_mem _ hx))
    have he := oneB_iff.1 (h e List.mem_cons_self)
    have : sumE (e :: l) = e.ln + sumE l := by simp [sumE]
    rw [this]
    simp only [List.length_cons]
    omega
theorem taken_one (l : List Ext) : ∀ e ∈ takenL l, oneB e = true := fun _ he => chk_mem (takenL_chk l) he
set_option linter.unusedSimpArgs false in
set_option linter.unusedVariables false in
set_option maxRecDepth 100000 in
set_option maxHeartbeats 4000000 in
theorem Blocks_any (p : Option Addr) (n c : Nat) (l : List Ext) (w : World) (h : InE w p n c l) (hn : n ≤ 100000) :
    Calls Try.prog 14 #[.slice p n c] w fun e w' => e = .returned (.int .i64 (sumE (takenL l))) ∧ Below w.heap.size w w' := by
  go_enter Try.func14, Try.ntmps14
  go_wp2_with fail
  refine (taken_any p n c l w h).mono ?_
  rintro e9 w1 ⟨p1, n1, c1, rfl, hi, hn1, -, hb1⟩
  have HT1 : Hid (∀ e ∈ takenL l, oneB e = true) := taken_one l
  have HL : Hid ((takenL l).length = n1) := hi.len
  obtain ⟨t, ht⟩ : ∃ t, takenL l = t := ⟨_, rfl⟩
  rw [ht] at HT1 HL hi
  have HTT : Hid (takenL l = t) := ht
  clear ht
  have hn2 : n1 ≤ 100000 := by omega
  go_wp2
  go_loopw [3, 9] (fun s i wr => ∃ (k : Nat), k ≤ n1 ∧ i = .int .i64 k ∧ s = .int .i64 (sumE (t.take k)) ∧ Below w1.heap.size w1 wr) (fun _ i _ => n1 - (intOf i).toNat)
  case atStart => exact ⟨0, Nat.zero_le _, rfl, rfl, Below.refl _ _⟩
  case round =>
    obtain ⟨k, hk, rfl, rfl, hb⟩ := hrel
    by_cases hlt : k < n1
    · have hki : (k : Int) < (n1 : Int) := by omega
      obtain ⟨b, o, hpe, hbl, hc⟩ := (hi.below hb).at' (by omega)
      subst hpe
      obtain ⟨e0, e1, e2⟩ := hc k hlt
      have hks : k < t.length := by rw [HL.out]; exact hlt
      have HU : Hid (sumE (t.take (k + 1)) = sumE (t.take k) + (eE t k).ln) := by show _ = _; rw [takeE_succ t k hks, sumE_snoc]
      have hsb := sum_bound (l := t.take k) (fun e he => HT1.out e (List.mem_of_mem_take he))
      have hsl : ((t.take k).length : Int) ≤ 100000 := by rw [List.length_take]; omega
      have heo := oneB_iff.1 (HT1.out _ (eE_mem hks))
      clear hc hbl
      generalize eE t k = e at *
      generalize sumE (t.take k) = s at *
      have hw : IntKind.i64.wrap (s + e.ln) = s + e.ln := by rw [IntKind.wrap_i64]; omega
      have hb9 := hb.trans ((below_alloc _ (.cells #[.int .i64 e.lo, .int .i64 e.ln, .int .i64 e.ph] 31)).mono hb.size)
      clear hsb hsl heo
      go_wp2
      go_roundw
      case rel => exact ⟨k + 1, by omega, by go_num, by rw [HU.out], hb9⟩
      case measure => simp [intOf]; omega
    · obtain rfl : k = n1 := by omega
      have hkn : ¬ (k : Int) < (k : Int) := by omega
      have HF : Hid (t.take k = t) := List.take_of_length_le (by rw [HL.out]; exact Nat.le_refl _)
      rw [HF.out]
      go_wp2
      go_ret
      exact ⟨by rw [HTT.out]; rfl, hb1.trans (hb.mono hb1.size)⟩
set_option linter.unusedSimpArgs false in
set_option linter.unusedVariables false in
set_option maxRecDepth 100000 in
set_option maxHeartbeats 4000000 in
theorem rBlocks_any (p : Option Addr) (n c : Nat) (l : List Ext) (w : World) (h : InE w p n c l) (hn : n ≤ 100000) :
    Calls Try.prog 15 #[.slice p n c] w fun e w' => e = .returned (.int .i64 (sumE (takenL l))) ∧ Below w.heap.size w w' := by
  go_enter Try.func15, Try.ntmps15
  go_wp2_with fail
  refine (may_any p n c l w h).mono ?_
  rintro e9 w1 ⟨p1, n1, c1, rfl, hi, hn1, hb1⟩
  have HT1 : Hid (∀ e ∈ takenL l, oneB e = true) := taken_one l
  have HL : Hid ((takenL l).length = n1) := hi.len
  obtain ⟨t, ht⟩ : ∃ t, takenL l = t := ⟨_, rfl⟩
  rw [ht] at HT1 HL hi
  have HTT : Hid (takenL l = t) := ht
  clear ht
  have hn2 : n1 ≤ 100000 := by omega
  go_wp2
  go_loopw [3, 4] (fun s i wr => wr = w1 ∧ ∃ (k : Nat), k ≤ n1 ∧ i = .int .i64 k ∧ s = .int .i64 (sumE (t.take k))) (fun _ i _ => n1 - (intOf i).toNat)
  case atStart => exact ⟨rfl, 0, Nat.zero_le _, rfl, rfl⟩
  case round =>
    obtain ⟨rfl, k, hk, rfl, rfl⟩ := hrel
    by_cases hlt : k < n1
    · have hki : (k : Int) < (n1 : Int) := by omega
      obtain ⟨b, o, hpe, hbl, hc⟩ := hi.at' (by omega)
      subst hpe
      obtain ⟨e0, e1, e2⟩ := hc k hlt
      have hks : k < t.length := by rw [HL.out]; exact hlt
      have HU : Hid (sumE (t.take (k + 1)) = sumE (t.take k) + (eE t k).ln) := by show _ = _; rw [takeE_succ t k hks, sumE_snoc]
      have hsb := sum_bound (l := t.take k) (fun e he => HT1.out e (List.mem_of_mem_take he))
      have hsl : ((t.take k).length : Int) ≤ 100000 := by rw [List.length_take]; omega
      have heo := oneB_iff.1 (HT1.out _ (eE_mem hks))
      clear hc hbl
      generalize eE t k = e at *
      generalize sumE (t.take k) = s at *
      have hw : IntKind.i64.wrap (s + e.ln) = s + e.ln := by rw [IntKind.wrap_i64]; omega
      clear hsb hsl heo
      go_wp2
      go_roundw
      case rel => exact ⟨trivial, k + 1, by omega, by go_num, by rw [HU.out]⟩
      case measure => simp [intOf]; omega
    · obtain rfl : k = n1 := by omega
      have hkn : ¬ (k : Int) < (k : Int) := by omega
      have HF : Hid (t.take k = t) := List.take_of_length_le (by rw [HL.out]; exact Nat.le_refl _)
      rw [HF.out]
      go_wp2
      go_ret
      exact ⟨by rw [HTT.out]; rfl, hb1⟩
set_option linter.unusedSimpArgs false in
set_option linter.unusedVariables false in
set_option maxRecDepth 100000 in
set_option maxHeartbeats 4000000 in
theorem End_any (p : Option Addr) (n c : Nat) (l : List Ext) (w : World) (h : InE w p n c l) (hn : n ≤ 100000) :
    Calls Try.prog 16 #[.slice p n c] w fun e w' => e = .returned (.int .i64 (endL (takenL l))) ∧ Below w.heap.size w w' := by
  go_enter Try.func16, Try.ntmps16
  go_wp2_with fail
  refine (taken_any p n c l w h).mono ?_
  rintro e9 w1 ⟨p1, n1, c1, rfl, hi, hn1, -, hb1⟩
  have HT1 : Hid (∀ e ∈ takenL l, oneB e = true) := taken_one l
  have HL : Hid ((takenL l).length = n1) := hi.len
  obtain ⟨t, ht⟩ : ∃ t, takenL l = t := ⟨_, rfl⟩
  rw [ht] at HT1 HL hi
  have HTT : Hid (takenL l = t) := ht
  clear ht
  have hn2 : n1 ≤ 100000 := by omega
  go_wp2
  go_loopw [3, 9] (fun s i wr => ∃ (k : Nat), k ≤ n1 ∧ i = .int .i64 k ∧ s = .int .i64 (endL (t.take k)) ∧ Below w1.heap.size w1 wr) (fun _ i _ => n1 - (intOf i).toNat)
  case atStart => exact ⟨0, Nat.zero_le _, rfl, rfl, Below.refl _ _⟩
  case round =>
    obtain ⟨k, hk, rfl, rfl, hb⟩ := hrel
    by_cases hlt : k < n1
    · have hki : (k : Int) < (n1 : Int) := by omega
      obtain ⟨b, o, hpe, hbl, hc⟩ := (hi.below hb).at' (by omega)
      subst hpe
      obtain ⟨e0, e1, e2⟩ := hc k hlt
      have hks : k < t.length := by rw [HL.out]; exact hlt
      have HU : Hid (endL (t.take (k + 1)) = endI (eE t k)) := by show _ = _; unfold endL; rw [takeE_succ t k hks, nextTo_snoc]; rfl
      have heo := HT1.out _ (eE_mem hks)
      clear hc hbl
      generalize eE t k = e at *
      generalize endL (t.take k) = s at *
      have hb9 := hb.trans ((below_al (below_alloc wr (.cells #[.int .i64 e.lo, .int .i64 e.ln, .int .i64 e.ph] 31)) (.cells #[.int .i64 e.lo, .int .i64 e.ln, .int .i64 e.ph] 31)).mono hb.size)
      go_wp2_with fail
      refine (end_any e _ heo).mono ?_
      rintro e9 w2 ⟨rfl, rfl⟩
      go_wp2
      go_roundw
      case rel => exact ⟨k + 1, by omega, by go_num, by rw [HU.out], hb9⟩
      case measure => simp [intOf]; omega
    · obtain rfl : k = n1 := by omega
      have hkn : ¬ (k : Int) < (k : Int) := by omega
      have HF : Hid (t.take k = t) := List.take_of_length_le (by rw [HL.out]; exact Nat.le_refl _)
      rw [HF.out]
      go_wp2
      go_ret
      exact ⟨by rw [HTT.out]; rfl, hb1.trans (hb.mono hb1.size)⟩
set_option linter.unusedSimpArgs false in
set_option linter.unusedVariables false in
set_option maxRecDepth 100000 in
set_option maxHeartbeats 4000000 in
theorem rEnd_any (p : Option Addr) (n c : Nat) (l : List Ext) (w : World) (h : InE w p n c l) (hn : n ≤ 100000) :
    Calls Try.prog 17 #[.slice p n c] w fun e w' => e = .returned (.int .i64 (endL (takenL l))) ∧ Below w.heap.size w w' := by
  go_enter Try.func17, Try.ntmps17
  go_wp2_with fail
  refine (may_any p n c l w h).mono ?_
  rintro e9 w1 ⟨p1, n1, c1, rfl, hi, hn1, hb1⟩
  have HT1 : Hid (∀ e ∈ takenL l, oneB e = true) := taken_one l
  have HL : Hid ((takenL l).length = n1) := hi.len
  have HTL : Hid (endL (takenL l) = endL (takenL l)) := rfl
  rcases Nat.eq_zero_or_pos n1 with hz | hz
  · subst hz
    have HE : Hid (endL (takenL l) = 0) := by show _ = _; rw [List.eq_nil_of_length_eq_zero HL.out]; rfl
    clear HTL
    go_wp2
    go_ret
    exact ⟨ret_int HE.out.symm, hb1⟩
  · obtain ⟨q, hq⟩ : ∃ q, n1 = q + 1 := ⟨n1 - 1, by omega⟩
    have hq1 : IntKind.i64.wrap ((n1 : Int) - 1) = (q : Int) := by rw [IntKind.wrap_i64]; omega
    have hqn : (q : Int) < (n1 : Int) := by omega
    have hqn2 : q < n1 := by omega
    have hn0 : ¬ (n1 : Int) = 0 := by omega
    have hn02 : ((n1 : Int) == 0) = false := by simpa using hn0
    obtain ⟨b, o, hpe, hbl, hc⟩ := hi.at' (by omega)
    subst hpe
    have hqs : q < (takenL l).length := by rw [HL.out]; exact hqn2
    have hx : Has w1 b (o + q * 3) (eE (takenL l) q) := ⟨hbl, hc q hqn2⟩
    have HE : Hid (endL (takenL l) = (eE (takenL l) q).lo + (eE (takenL l) q).ln) := by
      show _ = _
      have e1 : (takenL l).take (q + 1) = takenL l := List.take_of_length_le (by rw [HL.out]; omega)
      conv => lhs; rw [← e1, takeE_succ _ q hqs]
      unfold endL
      rw [nextTo_snoc]
    have hxo := oneB_iff.1 (HT1.out _ (eE_mem hqs))
    clear hc hbl hq hqs
    generalize eE (takenL l) q = x at *
    have hsw : IntKind.i64.wrap (x.lo + x.ln) = x.lo + x.ln := by rw [IntKind.wrap_i64]; omega
    clear hxo
    go_upto_region 4 with fail
    refine wp_region_noPanic ?_
    refine wp_region_held_drew (S := fun X => Has X b (o + q * 3) x) (by kernel_rfl) (hx.below (Below.refl _ _).drew) (fun hHeld => ?_)
    refine wpAnyH_take (i := 0) (v := ?_) rfl (by kernel_rfl) (by kernel_rfl) (by kernel_rfl) (fun _ _ _ h => h) (Or.inl ⟨by rfl, ?_⟩) hHeld ?_
    rotate_left
    · intro w' hSw; try dsimp only at hSw
      obtain ⟨_, c0, c1, c2⟩ := hSw
      go_simp; try (with_reducible rfl)
    try simp only [Act.put, List.getElem_toArray, List.getElem_cons_succ, List.getElem_cons_zero, List.setIfInBounds_toArray, List.set_cons_zero, List.set_cons_succ]
    refine wpAnyH_take (i := 1) (v := ?_) rfl (by kernel_rfl) (by kernel_rfl) (by kernel_rfl) (fun _ _ _ h => h) (Or.inl ⟨by rfl, ?_⟩) hHeld ?_
    rotate_left
    · intro w' hSw; try dsimp only at hSw
      obtain ⟨_, c0, c1, c2⟩ := hSw
      go_simp; try (with_reducible rfl)
    try simp only [Act.put, List.getElem_toArray, List.getElem_cons_succ, List.getElem_cons_zero, List.setIfInBounds_toArray, List.set_cons_zero, List.set_cons_succ]
    refine wpAnyH_take (i := 2) (v := ?_) rfl (by kernel_rfl) (by kernel_rfl) (by kernel_rfl) (fun _ _ _ h => h) (Or.inl ⟨by rfl, ?_⟩) hHeld ?_
    rotate_left
    · intro w' hSw; try dsimp only at hSw
      obtain ⟨_, c0, c1, c2⟩ := hSw
      go_simp; try (with_reducible rfl)
    try simp only [Act.put, List.getElem_toArray, List.getElem_cons_succ, List.getElem_cons_zero, List.setIfInBounds_toArray, List.set_cons_zero, List.set_cons_succ]
    refine wpAnyH_take (i := 3) (v := ?_) rfl (by kernel_rfl) (by kernel_rfl) (by kernel_rfl) (fun _ _ _ h => h) (Or.inl ⟨by rfl, ?_⟩) hHeld ?_
    rotate_left
    · intro w' hSw; try dsimp only at hSw
      obtain ⟨_, c0, c1, c2⟩ := hSw
      go_simp; try (with_reducible rfl)
    try simp only [Act.put, List.getElem_toArray, List.getElem_cons_succ, List.getElem_cons_zero, List.setIfInBounds_toArray, List.set_cons_zero, List.set_cons_succ]
    refine wpAnyH_take (i := 4) (v := ?_) rfl (by kernel_rfl) (by kernel_rfl) (by kernel_rfl) (fun _ _ _ h => h) (Or.inl ⟨by rfl, ?_⟩) hHeld ?_
    rotate_left
    · intro w' hSw; try dsimp only at hSw
      obtain ⟨_, c0, c1, c2⟩ := hSw
      go_simp; try (with_reducible rfl)
    try simp only [Act.put, List.getElem_toArray, List.getElem_cons_succ, List.getElem_cons_zero, List.setIfInBounds_toArray, List.set_cons_zero, List.set_cons_succ]
    refine wpAnyH_take (i := 5) (v := ?_) rfl (by kernel_rfl) (by kernel_rfl) (by kernel_rfl) (fun _ _ _ h => h) (Or.inl ⟨by rfl, ?_⟩) hHeld ?_
    rotate_left
    · intro w' hSw; try dsimp only at hSw
      obtain ⟨_, c0, c1, c2⟩ := hSw
      go_simp; try (with_reducible rfl)
    try simp only [Act.put, List.getElem_toArray, List.getElem_cons_succ, List.getElem_cons_zero, List.setIfInBounds_toArray, List.set_cons_zero, List.set_cons_succ]
    refine wpAnyH_take (i := 6) (v := ?_) rfl (by kernel_rfl) (by kernel_rfl) (by kernel_rfl) (fun _ _ _ h => h) (Or.inl ⟨by rfl, ?_⟩) hHeld ?_
    rotate_left
    · intro w' hSw; try dsimp only at hSw
      obtain ⟨_, c0, c1, c2⟩ := hSw
      go_simp; try (with_reducible rfl)
    try simp only [Act.put, List.getElem_toArray, List.getElem_cons_succ, List.getElem_cons_zero, List.setIfInBounds_toArray, List.set_cons_zero, List.set_cons_succ]
    refine wpAnyH_take (i := 7) (v := ?_) rfl (by kernel_rfl) (by kernel_rfl) (by kernel_rfl) (fun _ _ _ h => h) (Or.inl ⟨by rfl, ?_⟩) hHeld ?_
    rotate_left
    · intro w' hSw; try dsimp only at hSw
      obtain ⟨_, c0, c1, c2⟩ := hSw
      go_simp; try (with_reducible rfl)
    try simp only [Act.put, List.getElem_toArray, List.getElem_cons_succ, List.getElem_cons_zero, List.setIfInBounds_toArray, List.set_cons_zero, List.set_cons_succ]
    refine wpAnyH_take (i := 8) (v := ?_) rfl (by kernel_rfl) (by kernel_rfl) (by kernel_rfl) (fun _ _ _ h => h) (Or.inl ⟨by rfl, ?_⟩) hHeld ?_
    rotate_left
    · intro w' hSw; try dsimp only at hSw
      obtain ⟨_, c0, c1, c2⟩ := hSw
      go_simp; try (with_reducible rfl)
    try simp only [Act.put, List.getElem_toArray, List.getElem_cons_succ, List.getElem_cons_zero, List.setIfInBounds_toArray, List.set_cons_zero, List.set_cons_succ]
    refine wpAnyH_take (i := 9) (v := ?_) rfl (by kernel_rfl) (by kernel_rfl) (by kernel_rfl) (fun _ _ _ h => h) (Or.inl ⟨by rfl, ?_⟩) hHeld ?_
    rotate_left
    · intro w' hSw; try dsimp only at hSw
      obtain ⟨_, c0, c1, c2⟩ := hSw
      go_simp; try (with_reducible rfl)
    try simp only [Act.put, List.getElem_toArray, List.getElem_cons_succ, List.getElem_cons_zero, List.setIfInBounds_toArray, List.set_cons_zero, List.set_cons_succ]
    refine wpAnyH_take (i := 10) (v := ?_) rfl (by kernel_rfl) (by kernel_rfl) (by kernel_rfl) (fun _ _ _ h => h) (Or.inl ⟨by rfl, ?_⟩) hHeld ?_
    rotate_left
    · intro w' hSw; try dsimp only at hSw
      obtain ⟨_, c0, c1, c2⟩ := hSw
      go_simp; try (with_reducible rfl)
    try simp only [Act.put, List.getElem_toArray, List.getElem_cons_succ, List.getElem_cons_zero, List.setIfInBounds_toArray, List.set_cons_zero, List.set_cons_succ]
    refine wpAnyH_take (i := 11) (v := ?_) rfl (by kernel_rfl) (by kernel_rfl) (by kernel_rfl) (fun _ _ _ h => h) (Or.inl ⟨by rfl, ?_⟩) hHeld ?_
    rotate_left
    · intro w' hSw; try dsimp only at hSw
      obtain ⟨_, c0, c1, c2⟩ := hSw
      go_simp; try (with_reducible rfl)
    try simp only [Act.put, List.getElem_toArray, List.getElem_cons_succ, List.getElem_cons_zero, List.setIfInBounds_toArray, List.set_cons_zero, List.set_cons_succ]
    refine wpAnyH_take (i := 12) (v := ?_) rfl (by kernel_rfl) (by kernel_rfl) (by kernel_rfl) (fun _ _ _ h => h) (Or.inl ⟨by rfl, ?_⟩) hHeld ?_
    rotate_left
    · intro w' hSw; try dsimp only at hSw
      obtain ⟨_, c0, c1, c2⟩ := hSw
      go_simp; try (with_reducible rfl)
    try simp only [Act.put, List.getElem_toArray, List.getElem_cons_succ, List.getElem_cons_zero, List.setIfInBounds_toArray, List.set_cons_zero, List.set_cons_succ]
    refine wpAnyH_take (i := 13) (v := ?_) rfl (by kernel_rfl) (by kernel_rfl) (by kernel_rfl) (fun _ _ _ h => h) (Or.inl ⟨by rfl, ?_⟩) hHeld ?_
    rotate_left
    · intro w' hSw; try dsimp only at hSw
      obtain ⟨_, c0, c1, c2⟩ := hSw
      go_simp; try (with_reducible rfl)
    try simp only [Act.put, List.getElem_toArray, List.getElem_cons_succ, List.getElem_cons_zero, List.setIfInBounds_toArray, List.set_cons_zero, List.set_cons_succ]
    refine wpAnyH_take (i := 14) (v := ?_) rfl (by kernel_rfl) (by kernel_rfl) (by kernel_rfl) (fun _ _ _ h => h) (Or.inl ⟨by rfl, ?_⟩) hHeld ?_
    rotate_left
    · intro w' hSw; try dsimp only at hSw
      obtain ⟨_, c0, c1, c2⟩ := hSw
      go_simp; try (with_reducible rfl)
    try simp only [Act.put, List.getElem_toArray, List.getElem_cons_succ, List.getElem_cons_zero, List.setIfInBounds_toArray, List.set_cons_zero, List.set_cons_succ]
    refine wpAnyH_take (i := 15) (v := ?_) rfl (by kernel_rfl) (by kernel_rfl) (by kernel_rfl) (fun _ _ _ h => h) (Or.inl ⟨by rfl, ?_⟩) hHeld ?_
    rotate_left
    · intro w' hSw; try dsimp only at hSw
      obtain ⟨_, c0, c1, c2⟩ := hSw
      go_simp; try (with_reducible rfl)
    try simp only [Act.put, List.getElem_toArray, List.getElem_cons_succ, List.getElem_cons_zero, List.setIfInBounds_toArray, List.set_cons_zero, List.set_cons_succ]
    refine wpAnyH_done (by kernel_rfl) ?_ _
    refine NoPanic.normal ?_
    clear hHeld
    go_wp2
    go_ret
    exact ⟨ret_int HE.out.symm, hb1.drew⟩
end Go.Proofs.Ytmboohadindlfaa
