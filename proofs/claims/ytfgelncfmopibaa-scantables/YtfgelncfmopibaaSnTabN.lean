/-
  Table where it refuses; Table and Settled, the program's and the reference's, whatever their sizes.
-/
import Derived.Test.YtfgelncfmopibaaSnRTb
import Derived.Test.YtfgelncfmopibaaSnCmp
namespace Go.Proofs.Ytfgelncfmopibaa
open Go.RowKit
set_option linter.unusedSimpArgs false in
set_option maxRecDepth 100000 in
set_option maxHeartbeats 8000000 in
theorem table_sz (P L K : Int) (p : Option Addr) (n c : Nat) (w : World) (hok : okSz P L K = false) :
    Calls Try.prog 23 #[.int .i64 P, .int .i64 L, .int .i64 K, .slice p n c] w fun e w' => e = .returned (.tuple #[.agg #[.int .i64 0, .int .i64 0, .int .i64 0, .slice none 0 0, .slice none 0 0, .int .i64 0, .int .i64 0, .int .i64 0, .slice none 0 0], .slice none 0 0, .int .i64 1]) ∧ Below w.heap.size w w' := by
  have hnew := fun w => new_no P L K w hok
  have r0 := Blk.new' w 56 #[.int .i64 0, .int .i64 0, .int .i64 0, .slice none 0 0, .slice none 0 0, .int .i64 0, .int .i64 0, .int .i64 0, .slice none 0 0]
  have k0 := below_alloc w (.cells #[.int .i64 0, .int .i64 0, .int .i64 0, .slice none 0 0, .slice none 0 0, .int .i64 0, .int .i64 0, .int .i64 0, .slice none 0 0] 56)
  clear hok
  go_enter Try.func23, Try.ntmps23
  go_upto_region 1 with (fail)
  generalize w.alloc (.cells #[.int .i64 0, .int .i64 0, .int .i64 0, .slice none 0 0, .slice none 0 0, .int .i64 0, .int .i64 0, .int .i64 0, .slice none 0 0] 56) = W0 at *
  go_upto_region 2 with (first | (go_at_call 35; refine (hnew _).mono ?_; rintro e w1 ⟨rfl, hb1⟩) | (refine wpList_store_blk rfl 56 (.tmp 11) (.tmp 25) rfl w1.heap.size 0 [.int .i64 0, .int .i64 0, .int .i64 0, .slice none 0 0, .slice none 0 0, .int .i64 0, .int .i64 0, .int .i64 0, .slice none 0 0] rfl rfl (Blk.new' w1 56 #[.int .i64 0, .int .i64 0, .int .i64 0, .slice none 0 0, .slice none 0 0, .int .i64 0, .int .i64 0, .int .i64 0, .slice none 0 0]) (by exact Nat.le_refl _) (by show _ = some 9; kernel_rfl) (by simp [Value.oneCell']) ?_; intro W4 h4 ht4; rw [whole_row (by rfl)] at h4))
  have k4 : Below w1.heap.size w1 W4 := ht4.below (below_alloc w1 _) (Nat.le_refl _)
  have r4 := (r0.kept hb1).kept k4
  have kw4 := bt (bt k0 hb1) k4
  clear hnew r0 k0 hb1 k4 h4 ht4
  go_wp2_with (guard_target = wpList _ _ _ (Oper.mk _ (Op.store 56 (Operand.tmp 8) _) _ _ _ _ :: _) _ _; refine wpList_store_blk rfl 56 (.tmp 8) (.tmp 29) rfl w.heap.size 0 [.int .i64 0, .int .i64 0, .int .i64 0, .slice none 0 0, .slice none 0 0, .int .i64 0, .int .i64 0, .int .i64 0, .slice none 0 0] rfl rfl r4 (by exact Nat.le_refl _) (by show _ = some 9; kernel_rfl) (by simp [Value.oneCell']) ?_; intro W9 h9 ht9; rw [whole_row (by rfl)] at h9)
  exact ret_tab3 (V := ⟨none, 0, 0, none, 0, 0, none, 0, 0⟩) (T := ⟨0, 0, 0, [], [], 0, 0, 0, []⟩) Try.results23 rfl h9 rfl rfl rfl ⟨rfl, ht9.below kw4 (Nat.le_refl _)⟩
set_option linter.unusedSimpArgs false in
set_option maxRecDepth 100000 in
set_option maxHeartbeats 8000000 in
theorem table_len (P L : Nat) (K : Int) (m : Nat) (p : Option Addr) (n c : Nat) (w : World) (hok : okSz (P : Int) (L : Int) K = true) (hLP : (L : Int) * (P : Int) = (m : Int)) (hnm : n ≠ m) :
    Calls Try.prog 23 #[.int .i64 (P : Int), .int .i64 (L : Int), .int .i64 K, .slice p n c] w fun e w' => e = .returned (.tuple #[.agg #[.int .i64 0, .int .i64 0, .int .i64 0, .slice none 0 0, .slice none 0 0, .int .i64 0, .int .i64 0, .int .i64 0, .slice none 0 0], .slice none 0 0, .int .i64 1]) ∧ Below w.heap.size w w' := by
  have hnew := fun w => new_rows P L K m w hok hLP
  obtain ⟨r1, r2, _⟩ := okSz_iff.1 hok
  have hnb := prod_bd r2 r1
  have hmb : (m : Int) ≤ 8192 := by omega
  have hmb2 : m ≤ 8192 := by omega
  have hd : ((n : Int) == (m : Int)) = false := by rw [beq_eq_false_iff_ne]; omega
  have hd2 : ¬ (n : Int) = (m : Int) := by omega
  have r0 := Blk.new' w 56 #[.int .i64 0, .int .i64 0, .int .i64 0, .slice none 0 0, .slice none 0 0, .int .i64 0, .int .i64 0, .int .i64 0, .slice none 0 0]
  have k0 := below_alloc w (.cells #[.int .i64 0, .int .i64 0, .int .i64 0, .slice none 0 0, .slice none 0 0, .int .i64 0, .int .i64 0, .int .i64 0, .slice none 0 0] 56)
  clear hok hnb
  go_enter Try.func23, Try.ntmps23
  go_upto_region 1 with (fail)
  generalize w.alloc (.cells #[.int .i64 0, .int .i64 0, .int .i64 0, .slice none 0 0, .slice none 0 0, .int .i64 0, .int .i64 0, .int .i64 0, .slice none 0 0] 56) = W0 at *
  go_upto_region 2 with (first | (go_at_call 35; refine (hnew _).mono ?_; rintro e w1 ⟨⟨gd, cd, gh, ch, pl, cl, rfl, hd1, hh1, hl1⟩, hb1⟩) | (refine wpList_store_blk rfl 56 (.tmp 11) (.tmp 25) rfl w1.heap.size 0 (cells9 P L K m gd cd gh ch pl cl) rfl rfl (Blk.new' w1 56 #[.int .i64 0, .int .i64 0, .int .i64 0, .slice none 0 0, .slice none 0 0, .int .i64 0, .int .i64 0, .int .i64 0, .slice none 0 0]) (by exact Nat.le_refl _) (size9 _ _ _ _ _ _ _ _ _ _) (one9 _ _ _ _ _ _ _ _ _ _) ?_; intro W4 h4 ht4; rw [whole_row (by rfl)] at h4))
  have k4 : Below w1.heap.size w1 W4 := ht4.below (below_alloc w1 _) (Nat.le_refl _)
  have r4 := (r0.kept hb1).kept k4
  have kw4 := bt (bt k0 hb1) k4
  clear hnew r0 k0 hb1 k4 h4 ht4 hd1 hh1 hl1
  go_wp2_with (guard_target = wpList _ _ _ (Oper.mk _ (Op.store 56 (Operand.tmp 8) _) _ _ _ _ :: _) _ _; refine wpList_store_blk rfl 56 (.tmp 8) (.tmp 37) rfl w.heap.size 0 [.int .i64 0, .int .i64 0, .int .i64 0, .slice none 0 0, .slice none 0 0, .int .i64 0, .int .i64 0, .int .i64 0, .slice none 0 0] rfl rfl r4 (by exact Nat.le_refl _) (by show _ = some 9; kernel_rfl) (by simp [Value.oneCell']) ?_; intro W9 h9 ht9; rw [whole_row (by rfl)] at h9)
  exact ret_tab3 (V := ⟨none, 0, 0, none, 0, 0, none, 0, 0⟩) (T := ⟨0, 0, 0, [], [], 0, 0, 0, []⟩) Try.results23 rfl h9 rfl rfl rfl ⟨rfl, ht9.below kw4 (Nat.le_refl _)⟩
set_option linter.unusedSimpArgs false in
set_option maxRecDepth 100000 in
set_option maxHeartbeats 8000000 in
theorem tableR_sz (P L K : Int) (p : Option Addr) (n c : Nat) (w : World) (hok : okSz P L K = false) :
    Calls Try.prog 24 #[.int .i64 P, .int .i64 L, .int .i64 K, .slice p n c] w fun e w' => e = .returned (.tuple #[.agg #[.int .i64 0, .int .i64 0, .int .i64 0, .slice none 0 0, .slice none 0 0, .int .i64 0, .int .i64 0, .int .i64 0, .slice none 0 0], .slice none 0 0, .int .i64 1]) ∧ Below w.heap.size w w' := by
  have hnew := fun w => r05new_no P L K w hok
  have r0 := Blk.new' w 56 #[.int .i64 0, .int .i64 0, .int .i64 0, .slice none 0 0, .slice none 0 0, .int .i64 0, .int .i64 0, .int .i64 0, .slice none 0 0]
  have k0 := below_alloc w (.cells #[.int .i64 0, .int .i64 0, .int .i64 0, .slice none 0 0, .slice none 0 0, .int .i64 0, .int .i64 0, .int .i64 0, .slice none 0 0] 56)
  clear hok
  go_enter Try.func24, Try.ntmps24
  go_upto_region 1 with (fail)
  generalize w.alloc (.cells #[.int .i64 0, .int .i64 0, .int .i64 0, .slice none 0 0, .slice none 0 0, .int .i64 0, .int .i64 0, .int .i64 0, .slice none 0 0] 56) = W0 at *
  go_upto_region 2 with (first | (go_at_call 39; refine (hnew _).mono ?_; rintro e w1 ⟨rfl, hb1⟩) | (refine wpList_store_blk rfl 56 (.tmp 11) (.tmp 23) rfl w1.heap.size 0 [.int .i64 0, .int .i64 0, .int .i64 0, .slice none 0 0, .slice none 0 0, .int .i64 0, .int .i64 0, .int .i64 0, .slice none 0 0] rfl rfl (Blk.new' w1 56 #[.int .i64 0, .int .i64 0, .int .i64 0, .slice none 0 0, .slice none 0 0, .int .i64 0, .int .i64 0, .int .i64 0, .slice none 0 0]) (by exact Nat.le_refl _) (by show _ = some 9; kernel_rfl) (by simp [Value.oneCell']) ?_; intro W4 h4 ht4; rw [whole_row (by rfl)] at h4))
  have k4 : Below w1.heap.size w1 W4 := ht4.below (below_alloc w1 _) (Nat.le_refl _)
  have r4 := (r0.kept hb1).kept k4
  have kw4 := bt (bt k0 hb1) k4
  clear hnew r0 k0 hb1 k4 h4 ht4
  go_wp2_with (guard_target = wpList _ _ _ (Oper.mk _ (Op.store 56 (Operand.tmp 8) _) _ _ _ _ :: _) _ _; refine wpList_store_blk rfl 56 (.tmp 8) (.tmp 27) rfl w.heap.size 0 [.int .i64 0, .int .i64 0, .int .i64 0, .slice none 0 0, .slice none 0 0, .int .i64 0, .int .i64 0, .int .i64 0, .slice none 0 0] rfl rfl r4 (by exact Nat.le_refl _) (by show _ = some 9; kernel_rfl) (by simp [Value.oneCell']) ?_; intro W9 h9 ht9; rw [whole_row (by rfl)] at h9)
  exact ret_tab3 (V := ⟨none, 0, 0, none, 0, 0, none, 0, 0⟩) (T := ⟨0, 0, 0, [], [], 0, 0, 0, []⟩) Try.results24 rfl h9 rfl rfl rfl ⟨rfl, ht9.below kw4 (Nat.le_refl _)⟩
set_option linter.unusedSimpArgs false in
set_option maxRecDepth 100000 in
set_option maxHeartbeats 8000000 in
theorem tableR_len (P L : Nat) (K : Int) (m : Nat) (p : Option Addr) (n c : Nat) (w : World) (hok : okSz (P : Int) (L : Int) K = true) (hLP : (L : Int) * (P : Int) = (m : Int)) (hnm : n ≠ m) :
    Calls Try.prog 24 #[.int .i64 (P : Int), .int .i64 (L : Int), .int .i64 K, .slice p n c] w fun e w' => e = .returned (.tuple #[.agg #[.int .i64 0, .int .i64 0, .int .i64 0, .slice none 0 0, .slice none 0 0, .int .i64 0, .int .i64 0, .int .i64 0, .slice none 0 0], .slice none 0 0, .int .i64 1]) ∧ Below w.heap.size w w' := by
  have hnew := fun w => newR_rows P L K m w hok hLP
  obtain ⟨r1, r2, _⟩ := okSz_iff.1 hok
  have hnb := prod_bd r2 r1
  have hmb : (m : Int) ≤ 8192 := by omega
  have hmb2 : m ≤ 8192 := by omega
  have hd : ((n : Int) == (m : Int)) = false := by rw [beq_eq_false_iff_ne]; omega
  have hd2 : ¬ (n : Int) = (m : Int) := by omega
  have r0 := Blk.new' w 56 #[.int .i64 0, .int .i64 0, .int .i64 0, .slice none 0 0, .slice none 0 0, .int .i64 0, .int .i64 0, .int .i64 0, .slice none 0 0]
  have k0 := below_alloc w (.cells #[.int .i64 0, .int .i64 0, .int .i64 0, .slice none 0 0, .slice none 0 0, .int .i64 0, .int .i64 0, .int .i64 0, .slice none 0 0] 56)
  clear hok hnb
  go_enter Try.func24, Try.ntmps24
  go_upto_region 1 with (fail)
  generalize w.alloc (.cells #[.int .i64 0, .int .i64 0, .int .i64 0, .slice none 0 0, .slice none 0 0, .int .i64 0, .int .i64 0, .int .i64 0, .slice none 0 0] 56) = W0 at *
  go_upto_region 2 with (first | (go_at_call 39; refine (hnew _).mono ?_; rintro e w1 ⟨⟨gd, cd, gh, ch, pl, cl, rfl, hd1, hh1, hl1⟩, hb1⟩) | (refine wpList_store_blk rfl 56 (.tmp 11) (.tmp 23) rfl w1.heap.size 0 (cells9 P L K m gd cd gh ch pl cl) rfl rfl (Blk.new' w1 56 #[.int .i64 0, .int .i64 0, .int .i64 0, .slice none 0 0, .slice none 0 0, .int .i64 0, .int .i64 0, .int .i64 0, .slice none 0 0]) (by exact Nat.le_refl _) (size9 _ _ _ _ _ _ _ _ _ _) (one9 _ _ _ _ _ _ _ _ _ _) ?_; intro W4 h4 ht4; rw [whole_row (by rfl)] at h4))
  have k4 : Below w1.heap.size w1 W4 := ht4.below (below_alloc w1 _) (Nat.le_refl _)
  have r4 := (r0.kept hb1).kept k4
  have kw4 := bt (bt k0 hb1) k4
  clear hnew r0 k0 hb1 k4 h4 ht4 hd1 hh1 hl1
  go_wp2_with (guard_target = wpList _ _ _ (Oper.mk _ (Op.store 56 (Operand.tmp 8) _) _ _ _ _ :: _) _ _; refine wpList_store_blk rfl 56 (.tmp 8) (.tmp 35) rfl w.heap.size 0 [.int .i64 0, .int .i64 0, .int .i64 0, .slice none 0 0, .slice none 0 0, .int .i64 0, .int .i64 0, .int .i64 0, .slice none 0 0] rfl rfl r4 (by exact Nat.le_refl _) (by show _ = some 9; kernel_rfl) (by simp [Value.oneCell']) ?_; intro W9 h9 ht9; rw [whole_row (by rfl)] at h9)
  exact ret_tab3 (V := ⟨none, 0, 0, none, 0, 0, none, 0, 0⟩) (T := ⟨0, 0, 0, [], [], 0, 0, 0, []⟩) Try.results24 rfl h9 rfl rfl rfl ⟨rfl, ht9.below kw4 (Nat.le_refl _)⟩

/-- What both Tables hand out. -/
def TOut (w' : World) (P L K sp : Int) (D : List Int) (H : List Bool) (l : List Int) (err : Int) (e : Ending) : Prop := ∃ pd nd cd ph nh ch pl cl q lq cq, e = .returned (.tuple #[.agg #[.int .i64 P, .int .i64 L, .int .i64 K, .slice pd nd cd, .slice ph nh ch, .int .i64 sp, .int .i64 0, .int .i64 0, .slice pl 0 cl], .slice q lq cq, .int .i64 err]) ∧
  InI w' pd nd cd D ∧ InB w' ph nh ch H ∧ InI w' q lq cq l
theorem tOut_zero (w' : World) : TOut w' 0 0 0 0 [] [] [] 1 (.returned (.tuple #[.agg #[.int .i64 0, .int .i64 0, .int .i64 0, .slice none 0 0, .slice none 0 0, .int .i64 0, .int .i64 0, .int .i64 0, .slice none 0 0], .slice none 0 0, .int .i64 1])) :=
  ⟨none, 0, 0, none, 0, 0, none, 0, none, 0, 0, rfl, InI.empty _, InB.empty _, InI.empty _⟩
theorem tables_all (P L K : Int) (p : Option Addr) (n c : Nat) (zs : List Pl) : ∃ P' L' K' sp D H l err, Hid (err = 0 ∨ err = 1) ∧
    (∀ w, InZ w p n c zs → Calls Try.prog 23 #[.int .i64 P, .int .i64 L, .int .i64 K, .slice p n c] w fun e w' => TOut w' P' L' K' sp D H l err e ∧ Below w.heap.size w w') ∧
    (∀ w, InZ w p n c zs → Calls Try.prog 24 #[.int .i64 P, .int .i64 L, .int .i64 K, .slice p n c] w fun e w' => TOut w' P' L' K' sp D H l err e ∧ Below w.heap.size w w') := by
  cases hok : okSz P L K with
  | false =>
    refine ⟨0, 0, 0, 0, [], [], [], 1, .inr rfl, fun w _ => (table_sz P L K p n c w hok).mono ?_, fun w _ => (tableR_sz P L K p n c w hok).mono ?_⟩
    · rintro e w' ⟨rfl, hb⟩; exact ⟨tOut_zero w', hb⟩
    · rintro e w' ⟨rfl, hb⟩; exact ⟨tOut_zero w', hb⟩
  | true =>
    obtain ⟨r1, r2, r3⟩ := okSz_iff.1 hok
    obtain ⟨Q, rfl⟩ : ∃ Q : Nat, P = (Q : Int) := ⟨P.toNat, by omega⟩
    obtain ⟨M, rfl⟩ : ∃ M : Nat, L = (M : Int) := ⟨L.toNat, by omega⟩
    obtain ⟨m, hm⟩ : ∃ m : Nat, m = M * Q := ⟨_, rfl⟩
    have hLP : (M : Int) * (Q : Int) = (m : Int) := by rw [hm]; exact (Int.natCast_mul M Q).symm
    by_cases hnm : n = m
    · subst hnm
      refine ⟨Q, M, K, -1, (tabTo zs Q M n M).d, (tabTo zs Q M n M).h, (tabTo zs Q M n M).l, 0, .inl rfl, fun w hz => (table_ok Q M K n p c zs w hz hok hm).mono ?_, fun w hz => (tableR_ok Q M K n p c zs w hz hok hm).mono ?_⟩
      · rintro e w' ⟨⟨gd, cd, gh, ch, pl, cl, q, cq, rfl, h1, h2, h3, _⟩, hb⟩
        exact ⟨⟨_, _, _, _, _, _, _, _, _, _, _, rfl, h1, h2, h3⟩, hb⟩
      · rintro e w' ⟨⟨gd, cd, gh, ch, pl, cl, q, cq, rfl, h1, h2, h3, _⟩, hb⟩
        exact ⟨⟨_, _, _, _, _, _, _, _, _, _, _, rfl, h1, h2, h3⟩, hb⟩
    · refine ⟨0, 0, 0, 0, [], [], [], 1, .inr rfl, fun w _ => (table_len Q M K m p n c w hok hLP hnm).mono ?_, fun w _ => (tableR_len Q M K m p n c w hok hLP hnm).mono ?_⟩
      · rintro e w' ⟨rfl, hb⟩; exact ⟨tOut_zero w', hb⟩
      · rintro e w' ⟨rfl, hb⟩; exact ⟨tOut_zero w', hb⟩
theorem settled_all (P : Int) (p : Option Addr) (n c : Nat) (zs : List Pl) (blk : Int) (hn : n ≤ 1000000) : ∃ x b,
    (∀ w, InZ w p n c zs → Calls Try.prog 21 #[.int .i64 P, .slice p n c, .int .i64 blk] w fun e w' => e = .returned (.tuple #[.int .i64 x, .bool b]) ∧ Below w.heap.size w w') ∧
    (∀ w, InZ w p n c zs → Calls Try.prog 22 #[.int .i64 P, .slice p n c, .int .i64 blk] w fun e w' => e = .returned (.tuple #[.int .i64 x, .bool b]) ∧ Below w.heap.size w w') := by
  by_cases h : ¬ (4 ≤ P ∧ P ≤ 32) ∨ n % P.toNat ≠ 0 ∨ blk < 0 ∨ ((n / P.toNat : Nat) : Int) ≤ blk
  · exact ⟨0, false, fun w _ => settled_no P p n c blk w hn h, fun w _ => settledR_no P p n c blk w hn h⟩
  · simp only [not_or, Decidable.not_not] at h
    obtain ⟨h1, h2, h3, h4⟩ := h
    obtain ⟨Q, rfl⟩ : ∃ Q : Nat, P = (Q : Int) := ⟨P.toNat, by omega⟩
    obtain ⟨B, rfl⟩ : ∃ B : Nat, blk = (B : Int) := ⟨blk.toNat, by omega⟩
    rw [Int.toNat_natCast] at h2 h4
    have hm : n = n / Q * Q := by have := Nat.div_add_mod n Q; rw [h2, Nat.mul_comm] at this; omega
    exact ⟨_, _, fun w hz => settled_ok Q B (B * Q) (n / Q) p n c zs w hz hn rfl hm (by omega) (by omega) (by omega), fun w hz => settledR_ok Q B (B * Q) (n / Q) p n c zs w hz hn rfl hm (by omega) (by omega) (by omega)⟩
end Go.Proofs.Ytfgelncfmopibaa
