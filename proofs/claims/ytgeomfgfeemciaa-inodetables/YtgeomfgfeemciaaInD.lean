/-
  What inode.Decode answers.
-/
import Derived.Test.YtgeomfgfeemciaaInE
import Derived.Test.YtgeomfgfeemciaaInR
import Derived.Test.YtgeomfgfeemciaaEqual
namespace Go.Proofs.Ytgeomfgfeemciaa
open Go.RowKit
/-- A row that does not lie in a block is as it was where that block alone has turned. -/
theorem InE.turnedAt {w w' : World} {g : Nat} {p : Option Addr} {n c : Nat} {l : List Ext} (h : InE w p n c l) (t : Turned w w' g) (hne : 0 < n → ∀ a, p = some a → a.block ≠ g) : InE w' p n c l :=
  ⟨h.len, h.cap, h.max, h.room, fun h0 => by
    obtain ⟨b, o, hp, hb, hc⟩ := h.at' h0
    have hk := fun j => World.cell?_of_block (a := ⟨b, j, none⟩) (t.block b (hne h0 _ hp))
    exact ⟨b, o, hp, by rw [t.size]; exact hb, fun i hi => ⟨(hk _).trans (hc i hi).1, (hk _).trans (hc i hi).2.1, (hk _).trans (hc i hi).2.2⟩⟩, h.nil⟩
set_option linter.unusedSimpArgs false in
set_option linter.unusedVariables false in
set_option maxRecDepth 100000 in
set_option maxHeartbeats 8000000 in
theorem idecode_any (p : Option Addr) (n c : Nat) (xs : List Nat) (w : World) (hx : In w p n c xs) :
    Calls Try.prog 10 #[.slice p n c] w fun e w' => ∃ p' n' c', e = .returned (.tuple #[(decI xs).val p' n' c', .int .i64 (decE xs)]) ∧ InE w' p' n' c' (decI xs).rt ∧ Below w.heap.size w w' ∧ ∀ a, p' = some a → w.heap.size ≤ a.block := by
  have hb0 := below_alloc w (.cells #[.int .i64 0, .int .i64 0, .int .i64 0, .int .i64 0, .int .i64 0, .int .i64 0, .slice none 0 0] 24)
  have r0 := Blk.new' w 24 #[.int .i64 0, .int .i64 0, .int .i64 0, .int .i64 0, .int .i64 0, .int .i64 0, .slice none 0 0]
  have hx0 := hx.below hb0
  have HL : Hid (xs.length = n) := hx.len
  by_cases hn : n = 64
  · subst hn
    have hen := fun p n c w hi => iencode_any (rdI xs) p n c w hi
    have hrs := fun w hx => read_any p c xs w hx
    cases he : inoB (rdI xs) with
    | true =>
      have HE : Hid (inoE (rdI xs) = 0) := inoE_ok he
      cases hq : (encL (rdI xs) == xs) with
      | true =>
        have hok : decB xs = true := by unfold decB; rw [HL.out, he, hq]; rfl
        have HD : Hid (decI xs = rdI xs ∧ decE xs = 0) := ⟨decI_ok hok, decE_ok hok⟩
        have HQ : Hid (_ = true) := hq
        clear hok he hq
        generalize rdI xs = x at *
        obtain ⟨kd, lk, sz, nx, ge, dp, rt⟩ := x
        go_enter Try.func10, Try.ntmps10
        go_wp2_with (first
          | (go_at_call 34; refine (hrs _ hx0).mono ?_; rintro e w1 ⟨p1, n1, c1, rfl, hi1, hb1, hf1⟩; have r1 := (r0.kept hb1).alloc (.cells #[.int .i64 kd, .int .i64 lk, .int .i64 sz, .int .i64 nx, .int .i64 ge, .int .i64 dp, .slice p1 n1 c1] 24); have hk1 := below_alloc w1 (.cells #[.int .i64 kd, .int .i64 lk, .int .i64 sz, .int .i64 nx, .int .i64 ge, .int .i64 dp, .slice p1 n1 c1] 24); have hB1 := bt (bt hb0 hb1) hk1; have s1 := Blk.new' w1 24 #[.int .i64 kd, .int .i64 lk, .int .i64 sz, .int .i64 nx, .int .i64 ge, .int .i64 dp, .slice p1 n1 c1]; have hi2 := hi1.below hk1; have d0 := s1.cell' (i := 0) rfl; have d1 := s1.cell' (i := 1) rfl; have d2 := s1.cell' (i := 2) rfl; have d3 := s1.cell' (i := 3) rfl; have d4 := s1.cell' (i := 4) rfl; have d5 := s1.cell' (i := 5) rfl; have d6 := s1.cell' (i := 6) rfl)
          | (go_at_call 8; refine (hen p1 n1 c1 _ hi2).mono ?_; rintro e w2 ⟨p2, n2, c2, rfl, hin2, hb2, -⟩; rw [HE.out]; have r2 := r1.kept hb2; have hB2 := bt hB1 hb2; have s2 := s1.kept hb2; clear d0 d1 d2 d3 d4 d5 d6; have d0 := s2.cell' (i := 0) rfl; have d1 := s2.cell' (i := 1) rfl; have d2 := s2.cell' (i := 2) rfl; have d3 := s2.cell' (i := 3) rfl; have d4 := s2.cell' (i := 4) rfl; have d5 := s2.cell' (i := 5) rfl; have d6 := s2.cell' (i := 6) rfl; have hi3 := hi2.below hb2)
          | (go_at_call 12; refine (equal_any p2 p n2 c2 64 c _ xs _ hin2 (hx.below hB2)).mono ?_; rintro e w' ⟨rfl, hw'⟩; have hw2 := hw'.symm; subst hw2; clear hw'; rw [HQ.out])
          | (guard_target = wpList _ _ _ (Oper.mk _ (Op.store 24 (Operand.tmp 2) _) _ _ _ _ :: _) _ _; refine wpList_store_blk rfl 24 (.tmp 2) (.tmp 27) rfl _ 0 [.int .i64 kd, .int .i64 lk, .int .i64 sz, .int .i64 nx, .int .i64 ge, .int .i64 dp, .slice p1 n1 c1] rfl rfl r2 (by simp) size_ino one7 ?_; intro w8 b8 t8))
        refine ret_inoE rfl rfl b8 rfl rfl ⟨p1, n1, c1, by rw [HD.out.1, HD.out.2]; rfl, by rw [HD.out.1]; exact hi3.turnedAt t8 (fun _ a h e => by have := hf1 a h; rw [World.size_alloc] at this; omega), t8.below hB2 (Nat.le_refl _), fun a h => by have := hf1 a h; rw [World.size_alloc] at this; omega⟩
      | false =>
        have hok : decB xs = false := by unfold decB; rw [hq]; simp
        have HD : Hid (decI xs = zeroI ∧ decE xs = 140) := ⟨decI_no hok, decE_no hok⟩
        have HQ : Hid (_ = false) := hq
        clear hok he hq
        generalize rdI xs = x at *
        obtain ⟨kd, lk, sz, nx, ge, dp, rt⟩ := x
        go_enter Try.func10, Try.ntmps10
        go_wp2_with (first
          | (go_at_call 34; refine (hrs _ hx0).mono ?_; rintro e w1 ⟨p1, n1, c1, rfl, hi1, hb1, hf1⟩; have r1 := (r0.kept hb1).alloc (.cells #[.int .i64 kd, .int .i64 lk, .int .i64 sz, .int .i64 nx, .int .i64 ge, .int .i64 dp, .slice p1 n1 c1] 24); have hk1 := below_alloc w1 (.cells #[.int .i64 kd, .int .i64 lk, .int .i64 sz, .int .i64 nx, .int .i64 ge, .int .i64 dp, .slice p1 n1 c1] 24); have hB1 := bt (bt hb0 hb1) hk1; have s1 := Blk.new' w1 24 #[.int .i64 kd, .int .i64 lk, .int .i64 sz, .int .i64 nx, .int .i64 ge, .int .i64 dp, .slice p1 n1 c1]; have hi2 := hi1.below hk1; have d0 := s1.cell' (i := 0) rfl; have d1 := s1.cell' (i := 1) rfl; have d2 := s1.cell' (i := 2) rfl; have d3 := s1.cell' (i := 3) rfl; have d4 := s1.cell' (i := 4) rfl; have d5 := s1.cell' (i := 5) rfl; have d6 := s1.cell' (i := 6) rfl)
          | (go_at_call 8; refine (hen p1 n1 c1 _ hi2).mono ?_; rintro e w2 ⟨p2, n2, c2, rfl, hin2, hb2, -⟩; rw [HE.out]; have r2 := r1.kept hb2; have hB2 := bt hB1 hb2; have s2 := s1.kept hb2; clear d0 d1 d2 d3 d4 d5 d6; have d0 := s2.cell' (i := 0) rfl; have d1 := s2.cell' (i := 1) rfl; have d2 := s2.cell' (i := 2) rfl; have d3 := s2.cell' (i := 3) rfl; have d4 := s2.cell' (i := 4) rfl; have d5 := s2.cell' (i := 5) rfl; have d6 := s2.cell' (i := 6) rfl; have hi3 := hi2.below hb2)
          | (go_at_call 12; refine (equal_any p2 p n2 c2 64 c _ xs _ hin2 (hx.below hB2)).mono ?_; rintro e w' ⟨rfl, hw'⟩; have hw2 := hw'.symm; subst hw2; clear hw'; rw [HQ.out])
          | (guard_target = wpList _ _ _ (Oper.mk _ (Op.store 24 (Operand.tmp 2) _) _ _ _ _ :: _) _ _; refine wpList_store_blk rfl 24 (.tmp 2) (.tmp 26) rfl _ 0 [.int .i64 0, .int .i64 0, .int .i64 0, .int .i64 0, .int .i64 0, .int .i64 0, .slice none 0 0] rfl rfl r2 (by simp) size_ino one7 ?_; intro w8 b8 t8))
        refine ret_inoE rfl rfl b8 rfl rfl ⟨none, 0, 0, by rw [HD.out.1, HD.out.2]; rfl, by rw [HD.out.1]; exact InE.empty _, t8.below hB2 (Nat.le_refl _), fun a h => by cases h⟩
    | false =>
      have HE : Hid (inoE (rdI xs) = 140) := inoE_no he
      have hok : decB xs = false := by unfold decB; rw [he]; simp
      have HD : Hid (decI xs = zeroI ∧ decE xs = 140) := ⟨decI_no hok, decE_no hok⟩
      clear hok he
      generalize rdI xs = x at *
      obtain ⟨kd, lk, sz, nx, ge, dp, rt⟩ := x
      go_enter Try.func10, Try.ntmps10
      go_wp2_with (first
        | (go_at_call 34; refine (hrs _ hx0).mono ?_; rintro e w1 ⟨p1, n1, c1, rfl, hi1, hb1, hf1⟩; have r1 := (r0.kept hb1).alloc (.cells #[.int .i64 kd, .int .i64 lk, .int .i64 sz, .int .i64 nx, .int .i64 ge, .int .i64 dp, .slice p1 n1 c1] 24); have hk1 := below_alloc w1 (.cells #[.int .i64 kd, .int .i64 lk, .int .i64 sz, .int .i64 nx, .int .i64 ge, .int .i64 dp, .slice p1 n1 c1] 24); have hB1 := bt (bt hb0 hb1) hk1; have s1 := Blk.new' w1 24 #[.int .i64 kd, .int .i64 lk, .int .i64 sz, .int .i64 nx, .int .i64 ge, .int .i64 dp, .slice p1 n1 c1]; have hi2 := hi1.below hk1; have d0 := s1.cell' (i := 0) rfl; have d1 := s1.cell' (i := 1) rfl; have d2 := s1.cell' (i := 2) rfl; have d3 := s1.cell' (i := 3) rfl; have d4 := s1.cell' (i := 4) rfl; have d5 := s1.cell' (i := 5) rfl; have d6 := s1.cell' (i := 6) rfl)
        | (go_at_call 8; refine (hen p1 n1 c1 _ hi2).mono ?_; rintro e w2 ⟨p2, n2, c2, rfl, hin2, hb2, -⟩; rw [HE.out]; have r2 := r1.kept hb2; have hB2 := bt hB1 hb2; have s2 := s1.kept hb2; clear d0 d1 d2 d3 d4 d5 d6; have d0 := s2.cell' (i := 0) rfl; have d1 := s2.cell' (i := 1) rfl; have d2 := s2.cell' (i := 2) rfl; have d3 := s2.cell' (i := 3) rfl; have d4 := s2.cell' (i := 4) rfl; have d5 := s2.cell' (i := 5) rfl; have d6 := s2.cell' (i := 6) rfl; have hi3 := hi2.below hb2)
        | (guard_target = wpList _ _ _ (Oper.mk _ (Op.store 24 (Operand.tmp 2) _) _ _ _ _ :: _) _ _; refine wpList_store_blk rfl 24 (.tmp 2) (.tmp 26) rfl _ 0 [.int .i64 0, .int .i64 0, .int .i64 0, .int .i64 0, .int .i64 0, .int .i64 0, .slice none 0 0] rfl rfl r2 (by simp) size_ino one7 ?_; intro w8 b8 t8))
      refine ret_inoE rfl rfl b8 rfl rfl ⟨none, 0, 0, by rw [HD.out.1, HD.out.2]; rfl, by rw [HD.out.1]; exact InE.empty _, t8.below hB2 (Nat.le_refl _), fun a h => by cases h⟩
  · have hnz : ((n : Int) != 64) = true := by rw [bne_iff_ne]; omega
    have hok : decB xs = false := by unfold decB; rw [HL.out, show (n == 64) = false from by rw [beq_eq_false_iff_ne]; exact hn]; rfl
    have HD : Hid (decI xs = zeroI ∧ decE xs = 140) := ⟨decI_no hok, decE_no hok⟩
    clear hok hn
    go_enter Try.func10, Try.ntmps10
    go_wp2_with (guard_target = wpList _ _ _ (Oper.mk _ (Op.store 24 (Operand.tmp 2) _) _ _ _ _ :: _) _ _; refine wpList_store_blk rfl 24 (.tmp 2) (.tmp 10) rfl _ 0 [.int .i64 0, .int .i64 0, .int .i64 0, .int .i64 0, .int .i64 0, .int .i64 0, .slice none 0 0] rfl rfl r0 (by simp) size_ino one7 ?_; intro w8 b8 t8)
    refine ret_inoE rfl rfl b8 rfl rfl ⟨none, 0, 0, by rw [HD.out.1, HD.out.2]; rfl, by rw [HD.out.1]; exact InE.empty _, t8.below hb0 (Nat.le_refl _), fun a h => by cases h⟩
end Go.Proofs.Ytgeomfgfeemciaa
