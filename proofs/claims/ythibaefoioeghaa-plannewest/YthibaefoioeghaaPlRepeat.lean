/-
  What slices.Repeat of a slice of one number answers.
-/
import Derived.Test.YthibaefoioeghaaPlCheck
import Derived.Laws.CopyRow
import Derived.Laws.BitsAllLaws
namespace Go.Proofs.Ythibaefoioeghaa
open Go.RowKit
theorem and_mask (n : Nat) (h : n ≤ 1000000) : bits .and .u64 (n : Int) 4294967295 = (n : Int) := by
  have h' := u64_and_nat n 4294967295 (by omega) (by omega)
  have e : n &&& 4294967295 = n % 4294967296 := Nat.and_two_pow_sub_one_eq_mod n 32
  rw [e, Nat.mod_eq_of_lt (by omega)] at h'
  exact h'
theorem mul64_one (n : Nat) (h : n ≤ 1000000) (w : World) : Calls Try.prog 90 #[.int .u64 1, .int .u64 (n : Int)] w fun e w' => e = .returned (.tuple #[.int .u64 0, .int .u64 (n : Int)]) ∧ w' = w := by
  have hm := and_mask n h
  have hd : (n : Int) / 4294967296 = 0 := by omega
  have h0 : bits .and .u64 0 4294967295 = 0 := by decide
  have h1 : bits .and .u64 1 4294967295 = 1 := by decide
  have hr : (n : Int) ≤ 1000000 := by omega
  go_enter Try.func90, Try.ntmps90
  go_wp2
  go_ret2
  exact ⟨rfl, rfl⟩
theorem mul_one' (n : Nat) (h : n ≤ 1000000) (w : World) : Calls Try.prog 82 #[.int .u64 1, .int .u64 (n : Int)] w fun e w' => e = .returned (.tuple #[.int .u64 0, .int .u64 (n : Int)]) ∧ w' = w := by
  go_enter Try.func82, Try.ntmps82
  go_wp2_with (go_at_call 90; refine (mul64_one n h _).mono ?_; rintro e w' ⟨rfl, hw'⟩; have hw2 := hw'.symm; subst hw2; clear hw')
  go_ret2
  exact ⟨rfl, rfl⟩
/-- k times a number, then zeros. -/
def onesTo (z : Int) (n k : Nat) : List Int := List.replicate k z ++ List.replicate (n - k) 0
theorem onesTo_length {z : Int} {n k : Nat} (h : k ≤ n) : (onesTo z n k).length = n := by simp [onesTo]; omega
theorem onesTo_all (z : Int) (n : Nat) : onesTo z n n = List.replicate n z := by simp [onesTo]
theorem onesTo_zero (z : Int) (n : Nat) : onesTo z n 0 = List.replicate n 0 := by simp [onesTo]
theorem valsI_rep (n : Nat) (x : Int) : valsI (List.replicate n x) = List.replicate n (.int .i64 x) := by simp [valsI]
theorem onesTo_lay (z : Int) (n k j : Nat) (hk : k + j ≤ n) : (valsI (onesTo z n k)).take k ++ valsI (List.replicate j z) ++ (valsI (onesTo z n k)).drop (k + j) = valsI (onesTo z n (k + j)) := by
  simp only [onesTo, valsI_append, valsI_rep]
  rw [List.take_append_of_le_length (by simp), List.take_of_length_le (by simp), List.drop_append, List.drop_of_length_le (by simp), List.nil_append, List.length_replicate, List.drop_replicate, List.replicate_append_replicate]
  rw [show n - k - (k + j - k) = n - (k + j) from by omega]
theorem sliceI_back (b o n c k : Nat) (h : k < n) (hc : n ≤ c) (W : World) :
    (Instr.slice 22 (.slice (some ⟨b, o, none⟩) n c) (some (.int .i64 (k : Int))) none none).run Try.prog W = .ok (.slice (some ⟨b, o + k, none⟩) (n - k) (c - k)) W := by
  have h1 : ¬ c = k := by omega
  simp [Instr.slice, Instr.sliceBounds, Instr.sliceBound, run_underlying Try.underlying22, asIntOf, h1, addr_add]
  intro h3; omega
theorem sliceI_front (p : Option Addr) (n c k : Nat) (h : k ≤ n) (hc : n ≤ c) (W : World) :
    (Instr.slice 22 (.slice p n c) none (some (.int .i64 (k : Int))) none).run Try.prog W = .ok (.slice p k c) W := by
  simp [Instr.slice, Instr.sliceBounds, Instr.sliceBound, run_underlying Try.underlying22, asIntOf]
  rw [if_pos (by omega)]
  have : (Option.map (fun x : Addr => x.add 0) p) = p := by
    cases p with
    | none => rfl
    | some a => obtain ⟨b, o, s⟩ := a; cases s <;> simp [Addr.add]
  rw [this, ite_self]
theorem cellsI : (Try.prog.info? 3).map (·.size) = some 1 := by kernel_rfl
/-- copy of j ones to place k. -/
theorem copy_ones {z : Int} {w : World} {g n k j : Nat} (h : Blk w g 3 (valsI (onesTo z n k))) (hkj : k + j ≤ n) (b o m c l d : Nat) (hsrc : ∀ i, i < j → w.cell? ⟨b, o + i, none⟩ = some (.int .i64 z)) (hj : j = Nat.min m l) :
    ∃ w', (Builtin.copy_ #[22, 22] 3 #[.slice (some ⟨g, k, none⟩) l d, .slice (some ⟨b, o, none⟩) m c]).run Try.prog w = .ok (.int .i64 (j : Int)) w' ∧ Blk w' g 3 (valsI (onesTo z n (k + j))) ∧ Turned w w' g := by
  have hl : (valsI (List.replicate j z)).length = j := by rw [valsI_length, List.length_replicate]
  have hrun := run_copy_row (P := Try.prog) w 22 22 3 3 g k l d ⟨b, o, none⟩ m c (valsI (onesTo z n k)).toArray 3 (valsI (List.replicate j z)) Try.underlying22 cellsI h
    (by rw [hl]; exact hj)
    (fun i v hi => by
      obtain ⟨hi1, rfl⟩ := valsI_get_inv hi
      rw [List.length_replicate] at hi1
      rw [addr_add, hsrc i hi1]
      simp [eI, hi1])
    (by rw [hl, List.size_toArray, valsI_length, onesTo_length (by omega)]; exact hkj) (valsI_one _)
  rw [hl] at hrun
  rw [List.toList_toArray, onesTo_lay z n k j hkj] at hrun
  exact ⟨_, hrun, h.setRow _, Turned.setRow _ _ _⟩
theorem made_blockI {w : World} {B g n : Nat} (h : w.ownsRow B 3 1 (.slice (some ⟨g, 0, none⟩) n n) n (madeCells (Value.int .i64 0).cells (n * 1)).toList) : w.heap[g]? = some (.cells (List.replicate n (Value.int .i64 0)).toArray 3 (0, 0)) := by
  rw [show (Value.int .i64 0).cells = #[Value.int .i64 0] from rfl, toList_madeCells_one, Nat.mul_one] at h
  rcases h.2 with ⟨h', _⟩ | ⟨g', cap', cur, h', _, hg, _, _, hsz, htake⟩
  · simp at h'
  · simp only [Value.slice.injEq, Option.some.injEq, Addr.mk.injEq, and_true, true_and] at h'
    obtain ⟨rfl, rfl⟩ := h'
    rw [List.take_of_length_le (by simp [hsz])] at htake
    rw [hg, ← htake]
set_option linter.unusedSimpArgs false in
set_option maxHeartbeats 1000000 in
set_option maxRecDepth 100000 in
theorem repeat_any (z : Int) (b o c n : Nat) (h1 : 1 ≤ n) (hn : n ≤ 1000000) (w : World) (hx : InI w (some ⟨b, o, none⟩) 1 c [z]) :
    Calls Try.prog 56 #[.slice (some ⟨b, o, none⟩) 1 c, .int .i64 (n : Int)] w fun e w' => e = .returned (.slice (some ⟨w.heap.size, 0, none⟩) n n) ∧ Blk w' w.heap.size 3 (valsI (List.replicate n z)) ∧ Below w.heap.size w w' := by
  obtain ⟨i0, hi, hz0, hz1, hz2⟩ := info_parts info3
  have hn0 : ¬ (n : Int) < 0 := by omega
  have hn1 : (n : Int) ≤ 1000000 := by omega
  have hwu : IntKind.u64.wrap (n : Int) = (n : Int) := by rw [IntKind.wrap_u64]; omega
  have hwi : IntKind.i64.wrap (n : Int) = (n : Int) := by rw [IntKind.wrap_i64]; omega
  go_enter Try.func56, Try.ntmps56
  go_upto_region 7 with (first
    | (go_at_call 82; refine (mul_one' n hn _).mono ?_; rintro e w' ⟨rfl, hw'⟩; have hw2 := hw'.symm; subst hw2; clear hw')
    | (at_make; refine wpList_make_full _ rfl _ _ 22 rfl w.heap.size 3 i0 (.int .i64 0) 1 Try.underlying22 hi hz0 hz1 .i64 .i64 _ _ n rfl rfl rfl rfl (by rw [hz2]; omega) (by unfold maxLen; omega) (Nat.le_refl _) ?_; intro w1 hown1 hgrow1))
  have hb1 := below_grown0 hgrow1
  have g0 : Blk w1 w.heap.size 3 (valsI (onesTo z n 0)) := by
    have := made_blockI hown1
    rw [onesTo_zero, valsI_rep]; exact this
  obtain ⟨bb, oo, hpp, _, hc⟩ := (hx.below hb1).at' (by omega)
  cases hpp
  have hc0 := hc 0 (by omega)
  obtain ⟨w2, hcp, g2, t2⟩ := copy_ones g0 (j := 1) (by omega) b o 1 c n n (fun i hi => by obtain rfl : i = 0 := Nat.lt_one_iff.1 hi; exact hc0) (Nat.min_eq_left h1).symm
  have hb2 := t2.below hb1 (Nat.le_refl _)
  clear hown1 hgrow1 hc hc0 g0 t2 hb1 hwu
  go_wp2_with fail
  clear hcp
  rw [Nat.zero_add] at g2
  go_loopw [8] (fun i wr => ∃ k : Nat, 1 ≤ k ∧ k ≤ n ∧ i = .int .i64 k ∧ Blk wr w.heap.size 3 (valsI (onesTo z n k)) ∧ Below w.heap.size w wr) (fun i _ => n - (intOf i).toNat)
  case atStart => exact ⟨1, Nat.le_refl _, h1, rfl, g2, hb2⟩
  case round =>
    obtain ⟨k, hk1, hk, rfl, gk, hbk⟩ := hrel
    clear g2 hb2
    by_cases hlt : k < n
    · have s1 := sliceI_back w.heap.size 0 n n k hlt (Nat.le_refl _)
      have s2 := sliceI_front (some ⟨w.heap.size, 0, none⟩) n n k hk (Nat.le_refl _)
      rw [Nat.zero_add] at s1
      obtain ⟨j, hj⟩ : ∃ j, j = Nat.min k (n - k) := ⟨_, rfl⟩
      have hj1 : 1 ≤ j ∧ k + j ≤ n ∧ j ≤ k := by have e : Nat.min k (n - k) = min k (n - k) := rfl; rw [e] at hj; omega
      obtain ⟨w3, hcp, g3, t3⟩ := copy_ones (w := wr.drew) gk (j := j) (by omega) w.heap.size 0 k n (n - k) (n - k) (fun i hi => by
        have hi2 : i < k := by omega
        have := gk.cell' (i := 0 + i) (v := .int .i64 z) (by rw [Nat.zero_add, valsI_get _ i (by rw [onesTo_length hk]; omega)]; simp [onesTo, eI, hi2, List.getElem?_append])
        exact this) hj
      have hb3 : Below w.heap.size w w3 := t3.below hbk.drew (Nat.le_refl _)
      have hkn : (k : Int) < (n : Int) := by omega
      have hj2 : (j : Int) ≤ 1000000 := by omega
      have hk2 : (k : Int) ≤ 1000000 := by omega
      have hwj : IntKind.i64.wrap ((k : Int) + (j : Int)) = (k : Int) + (j : Int) := by rw [IntKind.wrap_i64]; omega
      clear hj
      go_wp2_with fail
      refine wp_region_noPanic ?_
      refine wp_region_held_drew (S := fun _ => True) (by kernel_rfl) trivial (fun hHeld => ?_)
      refine wpAnyH_take (i := 0) (v := ?_) rfl (by kernel_rfl) (by kernel_rfl) (by kernel_rfl) (fun _ _ _ h => h) (Or.inl ⟨by rfl, ?_⟩) hHeld ?_
      rotate_left
      · intro w' hSw; try dsimp only at hSw
        go_simp; try (with_reducible rfl)
      try simp only [Act.put, List.getElem_toArray, List.getElem_cons_succ, List.getElem_cons_zero, List.setIfInBounds_toArray, List.set_cons_zero, List.set_cons_succ]
      refine wpAnyH_take (i := 1) (v := ?_) rfl (by kernel_rfl) (by kernel_rfl) (by kernel_rfl) (fun _ _ _ h => h) (Or.inl ⟨by rfl, ?_⟩) hHeld ?_
      rotate_left
      · intro w' hSw; try dsimp only at hSw
        go_simp; try (with_reducible rfl)
      try simp only [Act.put, List.getElem_toArray, List.getElem_cons_succ, List.getElem_cons_zero, List.setIfInBounds_toArray, List.set_cons_zero, List.set_cons_succ]
      refine wpAnyH_take (i := 2) (v := ?_) rfl (by kernel_rfl) (by kernel_rfl) (by kernel_rfl) (fun _ _ _ h => h) (Or.inl ⟨by rfl, ?_⟩) hHeld ?_
      rotate_left
      · intro w' hSw; try dsimp only at hSw
        go_simp; try (with_reducible rfl)
      try simp only [Act.put, List.getElem_toArray, List.getElem_cons_succ, List.getElem_cons_zero, List.setIfInBounds_toArray, List.set_cons_zero, List.set_cons_succ]
      refine wpAnyH_take (i := 3) (v := ?_) rfl (by kernel_rfl) (by kernel_rfl) (by kernel_rfl) (fun _ _ _ h => h) (Or.inl ⟨by rfl, ?_⟩) hHeld ?_
      rotate_left
      · intro w' hSw; try dsimp only at hSw
        go_simp; try (with_reducible rfl)
      try simp only [Act.put, List.getElem_toArray, List.getElem_cons_succ, List.getElem_cons_zero, List.setIfInBounds_toArray, List.set_cons_zero, List.set_cons_succ]
      refine wpAnyH_take (i := 4) (v := ?_) rfl (by kernel_rfl) (by kernel_rfl) (by kernel_rfl) (fun _ _ _ h => h) (Or.inl ⟨by rfl, ?_⟩) hHeld ?_
      rotate_left
      · intro w' hSw; try dsimp only at hSw
        go_simp; try (with_reducible rfl)
      try simp only [Act.put, List.getElem_toArray, List.getElem_cons_succ, List.getElem_cons_zero, List.setIfInBounds_toArray, List.set_cons_zero, List.set_cons_succ]
      refine wpAnyH_take (i := 5) (v := ?_) rfl (by kernel_rfl) (by kernel_rfl) (by kernel_rfl) (fun _ _ _ h => h) (Or.inl ⟨by rfl, ?_⟩) hHeld ?_
      rotate_left
      · intro w' hSw; try dsimp only at hSw
        go_simp; try (with_reducible rfl)
      try simp only [Act.put, List.getElem_toArray, List.getElem_cons_succ, List.getElem_cons_zero, List.setIfInBounds_toArray, List.set_cons_zero, List.set_cons_succ]
      refine wpAnyH_take (i := 6) (v := ?_) rfl (by kernel_rfl) (by kernel_rfl) (by kernel_rfl) (fun _ _ _ h => h) (Or.inl ⟨by rfl, ?_⟩) hHeld ?_
      rotate_left
      · intro w' hSw; try dsimp only at hSw
        go_simp; try (with_reducible rfl)
      try simp only [Act.put, List.getElem_toArray, List.getElem_cons_succ, List.getElem_cons_zero, List.setIfInBounds_toArray, List.set_cons_zero, List.set_cons_succ]
      refine wpAnyH_ready (rs := [7]) (by kernel_rfl) (by simp) ?_
      refine AllReadyH.cons rfl (fun K hK => ?_) AllReadyH.nil
      go_simp
      refine hK.out _ _ trivial (fun hHeld => ?_)
      clear hK K
      try simp only [Act.put, List.getElem_toArray, List.getElem_cons_succ, List.getElem_cons_zero, List.setIfInBounds_toArray, List.set_cons_zero, List.set_cons_succ]
      refine wpAnyH_take (i := 8) (v := ?_) rfl (by kernel_rfl) (by kernel_rfl) (by kernel_rfl) (fun _ _ _ h => h) (Or.inl ⟨by rfl, ?_⟩) hHeld ?_
      rotate_left
      · intro w' hSw; try dsimp only at hSw
        go_simp; try (with_reducible rfl)
      try simp only [Act.put, List.getElem_toArray, List.getElem_cons_succ, List.getElem_cons_zero, List.setIfInBounds_toArray, List.set_cons_zero, List.set_cons_succ]
      refine wpAnyH_take (i := 9) (v := ?_) rfl (by kernel_rfl) (by kernel_rfl) (by kernel_rfl) (fun _ _ _ h => h) (Or.inl ⟨by rfl, ?_⟩) hHeld ?_
      rotate_left
      · intro w' hSw; try dsimp only at hSw
        go_simp; try (with_reducible rfl)
      try simp only [Act.put, List.getElem_toArray, List.getElem_cons_succ, List.getElem_cons_zero, List.setIfInBounds_toArray, List.set_cons_zero, List.set_cons_succ]
      refine wpAnyH_done (by kernel_rfl) ?_ _
      refine NoPanic.normal ?_
      clear hcp s1 s2
      go_wp2_with fail
      go_roundw
      case rel => exact ⟨k + j, by omega, by omega, by go_num, g3, hb3⟩
      case measure => simp [intOf]; omega
    · have hkn : k = n := by omega
      subst hkn
      go_wp2_with fail
      go_ret
      rw [onesTo_all] at gk
      exact ⟨rfl, gk, hbk⟩
end Go.Proofs.Ythibaefoioeghaa
