/-
  The reference's Holes.
-/
import Derived.Test.YtmboohadindlfaaXtT4
namespace Go.Proofs.Ytmboohadindlfaa
open Go.RowKit
theorem nextTo_low {A : Int} {s : List Ext} (hA : 0 ≤ A) (h : ∀ e ∈ s, oneB e = true) : 0 ≤ nextTo A s := by
  rcases List.eq_nil_or_concat s with rfl | ⟨s', x, rfl⟩
  · exact hA
  · rw [List.concat_eq_append] at *
    rw [nextTo_snoc]
    have := oneB_iff.1 (h x (by simp))
    omega
theorem holIf_len (a b : Int) : (holIf a b).length ≤ 1 := by unfold holIf; split <;> simp
theorem holesTo_len (a : Int) (s : List Ext) : (holesTo a s).length ≤ s.length := by
  induction s generalizing a with
  | nil => simp [holesTo]
  | cons x s ih => have := ih (x.lo + x.ln); have := holIf_len a x.lo; simp only [holesTo, List.length_append, List.length_cons]; omega
theorem runs_one {f u : Int} {l : List Ext} (h : ∀ e ∈ l, oneB e = true) : ∀ e ∈ runsL f u l, oneB e = true := fun x hx => by
  obtain ⟨e, he, hp, rfl⟩ := runs_mem hx
  exact part_one (h e he) hp
set_option linter.unusedSimpArgs false in
set_option linter.unusedVariables false in
set_option maxRecDepth 100000 in
set_option maxHeartbeats 4000000 in
theorem rHoles_any (p : Option Addr) (n c : Nat) (l : List Ext) (f u : Int) (w : World) (h : InE w p n c l) (hn : n ≤ 100000) :
    Calls Try.prog 25 #[.slice p n c, .int .i64 f, .int .i64 u] w fun e w' => ∃ p2 n2 c2, e = .returned (.slice p2 n2 c2) ∧ InH w' p2 n2 c2 (holesL (min u 65536) (max f 0) (runsL (max f 0) (min u 65536) (takenL l))) ∧ n2 ≤ n + 1 ∧ Below w.heap.size w w' := by
  obtain ⟨i0, hi, hz0, hz1, hz2⟩ := info_parts infoH
  obtain ⟨A, hA⟩ : ∃ A, max f 0 = A := ⟨_, rfl⟩
  obtain ⟨B, hB⟩ : ∃ B, min u 65536 = B := ⟨_, rfl⟩
  have hA0 : 0 ≤ A := by omega
  have hB0 : B ≤ 65536 := by omega
  rw [hA, hB]
  go_enter Try.func25, Try.ntmps25
  go_wp2_with fail
  refine (rRuns_any p n c l A B w h hn).mono ?_
  rintro e9 w1 ⟨p1, n1, c1, rfl, hin, hn1, hb1⟩
  have HT1 : Hid (∀ e ∈ runsL A B (takenL l), oneB e = true) := runs_one (taken_one l)
  have HL : Hid ((runsL A B (takenL l)).length = n1) := hin.len
  obtain ⟨t, ht⟩ : ∃ t, runsL A B (takenL l) = t := ⟨_, rfl⟩
  rw [ht] at HT1 HL hin
  have HTT : Hid (runsL A B (takenL l) = t) := ht
  clear ht
  have hn2 : n1 ≤ 100000 := by omega
  clear hA hB
  go_wp2
  go_loopw [7, 10, 11] (fun at' v i wr => ∃ (k : Nat), k ≤ n1 ∧ i = .int .i64 k ∧ at' = .int .i64 (nextTo A (t.take k)) ∧ wr.ownsRow w1.heap.size 38 2 v (holesTo A (t.take k)).length (flatH (holesTo A (t.take k))) ∧ Below w1.heap.size w1 wr) (fun _ _ i _ => n1 - (intOf i).toNat)
  case atStart => exact ⟨0, Nat.zero_le _, rfl, rfl, World.ownsRow_nil _ _ _ _, Below.refl _ _⟩
  case round =>
    obtain ⟨k, hk, rfl, rfl, ho, hb⟩ := hrel
    have hrl := holesTo_len A (t.take k)
    rw [List.length_take] at hrl
    have hat := nextTo_low (s := t.take k) hA0 (fun e he => HT1.out e (List.mem_of_mem_take he))
    obtain ⟨pv, cv, rfl⟩ := owns_slice ho
    have hs := hb.size
    by_cases hlt : k < n1
    · have hki : (k : Int) < (n1 : Int) := by omega
      obtain ⟨b, o, hpe, hbl, hc⟩ := hin.at' (by omega)
      subst hpe
      have hks : k < t.length := by rw [HL.out]; exact hlt
      have hh1 : Has w1 b (o + k * 3) (eE t k) := ⟨hbl, hc k hlt⟩
      have hh := hh1.below hb
      obtain ⟨_, e0, e1, e2⟩ := hh
      have HU : Hid (t.take (k + 1) = t.take k ++ [eE t k]) := takeE_succ t k hks
      have heo := oneB_iff.1 (HT1.out _ (eE_mem hks))
      clear hc hbl
      generalize eE t k = e at *
      have HX : Hid (nextTo A (t.take (k + 1)) = e.lo + e.ln) := by show _ = _; rw [HU.out, nextTo_snoc]
      have HY : Hid (holesTo A (t.take (k + 1)) = holesTo A (t.take k) ++ holIf (nextTo A (t.take k)) e.lo) := by show _ = _; rw [HU.out, holesTo_snoc]
      have hwe : IntKind.i64.wrap (e.lo + e.ln) = e.lo + e.ln := by rw [IntKind.wrap_i64]; omega
      generalize nextTo A (t.take k) = q at *
      generalize holesTo A (t.take k) = rl at *
      obtain ⟨N, hN⟩ : ∃ N, rl.length = N := ⟨_, rfl⟩
      rw [hN] at ho hrl
      rw [hN]
      have HN : Hid (rl.length = N) := hN
      clear hN
      by_cases hg : q < e.lo
      · have HZ : Hid (holIf q e.lo = [⟨q, e.lo - q⟩]) := holIf_yes hg
        have hws : IntKind.i64.wrap (e.lo - q) = e.lo - q := by rw [IntKind.wrap_i64]; omega
        clear heo
        go_wp2_with (at_builtin; refine wpList_append_own _ rfl (.tmp 33) (.tmp 43) 36 rfl w1.heap.size 38 i0 (.agg #[.int .i64 0, .int .i64 0]) 2 16 Try.underlying36 hi hz0 hz1 hz2 rfl (by decide) _ N _ rfl (ho.alloc _) ⟨_, 0, none⟩ 1 1 [.int .i64 q, .int .i64 (e.lo - q)] rfl rfl (new_two _ _ _) (by simp [Value.oneCell']) (by unfold maxLen; omega) (by omega) (by simp; omega) ?_; intro v1 w5 hown5 hgrow5 _)
        have hb5 := below_appP hb (Nat.le_refl _) ho hgrow5
        rw [flatH_snoc rl ⟨q, e.lo - q⟩] at hown5
        have hh5 := hh1.below hb5
        go_upto_region 10 with fail
        refine wp_region_noPanic ?_
        refine wp_region_held_drew (S := fun X => Has X b (o + k * 3) e) (by kernel_rfl) (hh5.below (Below.refl _ _).drew) (fun hHeld => ?_)
        refine wpAnyH_take (i := 0) (v := ?_) rfl (by kernel_rfl) (by kernel_rfl) (by kernel_rfl) (fun _ _ _ h => h) (Or.inl ⟨by rfl, ?_⟩) hHeld ?_
        rotate_left
        · intro w' hSw; try dsimp only at hSw
          obtain ⟨_, c0, c1, c2⟩ := hSw
          go_simp; try (with_reducible rfl)
        try simp only [Act.put, List.getElem_toArray, List.getElem_cons_succ, List.getElem_cons_zero, List.setIfInBounds_toArray, List.set_cons_zero, List.set_cons_succ]
        refine wpAnyH_take (i := 1) (v := ?_) rfl (by kernel_rfl) (by kernel_rfl) (by kernel_rfl) (fun _ _ _ h => h) (Or.inl ⟨by rfl, ?_⟩) hHeld ?_
        rotate_left
        · intro w' hSw; try dsimp only at hSw
          obtain ⟨_, c0, c1, c2⟩ := hSw
          go_simp; try (with_reducible rfl)
        try simp only [Act.put, List.getElem_toArray, List.getElem_cons_succ, List.getElem_cons_zero, List.setIfInBounds_toArray, List.set_cons_zero, List.set_cons_succ]
        refine wpAnyH_take (i := 2) (v := ?_) rfl (by kernel_rfl) (by kernel_rfl) (by kernel_rfl) (fun _ _ _ h => h) (Or.inl ⟨by rfl, ?_⟩) hHeld ?_
        rotate_left
        · intro w' hSw; try dsimp only at hSw
          obtain ⟨_, c0, c1, c2⟩ := hSw
          go_simp; try (with_reducible rfl)
        try simp only [Act.put, List.getElem_toArray, List.getElem_cons_succ, List.getElem_cons_zero, List.setIfInBounds_toArray, List.set_cons_zero, List.set_cons_succ]
        refine wpAnyH_take (i := 3) (v := ?_) rfl (by kernel_rfl) (by kernel_rfl) (by kernel_rfl) (fun _ _ _ h => h) (Or.inl ⟨by rfl, ?_⟩) hHeld ?_
        rotate_left
        · intro w' hSw; try dsimp only at hSw
          obtain ⟨_, c0, c1, c2⟩ := hSw
          go_simp; try (with_reducible rfl)
        try simp only [Act.put, List.getElem_toArray, List.getElem_cons_succ, List.getElem_cons_zero, List.setIfInBounds_toArray, List.set_cons_zero, List.set_cons_succ]
        refine wpAnyH_take (i := 4) (v := ?_) rfl (by kernel_rfl) (by kernel_rfl) (by kernel_rfl) (fun _ _ _ h => h) (Or.inl ⟨by rfl, ?_⟩) hHeld ?_
        rotate_left
        · intro w' hSw; try dsimp only at hSw
          obtain ⟨_, c0, c1, c2⟩ := hSw
          go_simp; try (with_reducible rfl)
        try simp only [Act.put, List.getElem_toArray, List.getElem_cons_succ, List.getElem_cons_zero, List.setIfInBounds_toArray, List.set_cons_zero, List.set_cons_succ]
        refine wpAnyH_take (i := 5) (v := ?_) rfl (by kernel_rfl) (by kernel_rfl) (by kernel_rfl) (fun _ _ _ h => h) (Or.inl ⟨by rfl, ?_⟩) hHeld ?_
        rotate_left
        · intro w' hSw; try dsimp only at hSw
          obtain ⟨_, c0, c1, c2⟩ := hSw
          go_simp; try (with_reducible rfl)
        try simp only [Act.put, List.getElem_toArray, List.getElem_cons_succ, List.getElem_cons_zero, List.setIfInBounds_toArray, List.set_cons_zero, List.set_cons_succ]
        refine wpAnyH_take (i := 6) (v := ?_) rfl (by kernel_rfl) (by kernel_rfl) (by kernel_rfl) (fun _ _ _ h => h) (Or.inl ⟨by rfl, ?_⟩) hHeld ?_
        rotate_left
        · intro w' hSw; try dsimp only at hSw
          obtain ⟨_, c0, c1, c2⟩ := hSw
          go_simp; try (with_reducible rfl)
        try simp only [Act.put, List.getElem_toArray, List.getElem_cons_succ, List.getElem_cons_zero, List.setIfInBounds_toArray, List.set_cons_zero, List.set_cons_succ]
        refine wpAnyH_take (i := 7) (v := ?_) rfl (by kernel_rfl) (by kernel_rfl) (by kernel_rfl) (fun _ _ _ h => h) (Or.inl ⟨by rfl, ?_⟩) hHeld ?_
        rotate_left
        · intro w' hSw; try dsimp only at hSw
          obtain ⟨_, c0, c1, c2⟩ := hSw
          go_simp; try (with_reducible rfl)
        try simp only [Act.put, List.getElem_toArray, List.getElem_cons_succ, List.getElem_cons_zero, List.setIfInBounds_toArray, List.set_cons_zero, List.set_cons_succ]
        refine wpAnyH_take (i := 8) (v := ?_) rfl (by kernel_rfl) (by kernel_rfl) (by kernel_rfl) (fun _ _ _ h => h) (Or.inl ⟨by rfl, ?_⟩) hHeld ?_
        rotate_left
        · intro w' hSw; try dsimp only at hSw
          obtain ⟨_, c0, c1, c2⟩ := hSw
          go_simp; try (with_reducible rfl)
        try simp only [Act.put, List.getElem_toArray, List.getElem_cons_succ, List.getElem_cons_zero, List.setIfInBounds_toArray, List.set_cons_zero, List.set_cons_succ]
        refine wpAnyH_take (i := 9) (v := ?_) rfl (by kernel_rfl) (by kernel_rfl) (by kernel_rfl) (fun _ _ _ h => h) (Or.inl ⟨by rfl, ?_⟩) hHeld ?_
        rotate_left
        · intro w' hSw; try dsimp only at hSw
          obtain ⟨_, c0, c1, c2⟩ := hSw
          go_simp; try (with_reducible rfl)
        try simp only [Act.put, List.getElem_toArray, List.getElem_cons_succ, List.getElem_cons_zero, List.setIfInBounds_toArray, List.set_cons_zero, List.set_cons_succ]
        refine wpAnyH_take (i := 10) (v := ?_) rfl (by kernel_rfl) (by kernel_rfl) (by kernel_rfl) (fun _ _ _ h => h) (Or.inl ⟨by rfl, ?_⟩) hHeld ?_
        rotate_left
        · intro w' hSw; try dsimp only at hSw
          obtain ⟨_, c0, c1, c2⟩ := hSw
          go_simp; try (with_reducible rfl)
        try simp only [Act.put, List.getElem_toArray, List.getElem_cons_succ, List.getElem_cons_zero, List.setIfInBounds_toArray, List.set_cons_zero, List.set_cons_succ]
        refine wpAnyH_take (i := 11) (v := ?_) rfl (by kernel_rfl) (by kernel_rfl) (by kernel_rfl) (fun _ _ _ h => h) (Or.inl ⟨by rfl, ?_⟩) hHeld ?_
        rotate_left
        · intro w' hSw; try dsimp only at hSw
          obtain ⟨_, c0, c1, c2⟩ := hSw
          go_simp; try (with_reducible rfl)
        try simp only [Act.put, List.getElem_toArray, List.getElem_cons_succ, List.getElem_cons_zero, List.setIfInBounds_toArray, List.set_cons_zero, List.set_cons_succ]
        refine wpAnyH_done (by kernel_rfl) ?_ _
        refine NoPanic.normal ?_
        clear hHeld
        go_wp2
        go_roundw
        case rel => exact ⟨k + 1, by omega, by go_num, by rw [HX.out], by rw [HY.out, HZ.out, List.length_append, HN.out]; exact hown5.drew, hb5.drew⟩
        case measure => simp [intOf]; omega
      · have HZ : Hid (holIf q e.lo = []) := holIf_no hg
        clear heo
        go_upto_region 10 with fail
        refine wp_region_noPanic ?_
        refine wp_region_held_drew (S := fun X => Has X b (o + k * 3) e) (by kernel_rfl) ((hh1.below hb).below (Below.refl _ _).drew) (fun hHeld => ?_)
        refine wpAnyH_take (i := 0) (v := ?_) rfl (by kernel_rfl) (by kernel_rfl) (by kernel_rfl) (fun _ _ _ h => h) (Or.inl ⟨by rfl, ?_⟩) hHeld ?_
        rotate_left
        · intro w' hSw; try dsimp only at hSw
          obtain ⟨_, c0, c1, c2⟩ := hSw
          go_simp; try (with_reducible rfl)
        try simp only [Act.put, List.getElem_toArray, List.getElem_cons_succ, List.getElem_cons_zero, List.setIfInBounds_toArray, List.set_cons_zero, List.set_cons_succ]
        refine wpAnyH_take (i := 1) (v := ?_) rfl (by kernel_rfl) (by kernel_rfl) (by kernel_rfl) (fun _ _ _ h => h) (Or.inl ⟨by rfl, ?_⟩) hHeld ?_
        rotate_left
        · intro w' hSw; try dsimp only at hSw
          obtain ⟨_, c0, c1, c2⟩ := hSw
          go_simp; try (with_reducible rfl)
        try simp only [Act.put, List.getElem_toArray, List.getElem_cons_succ, List.getElem_cons_zero, List.setIfInBounds_toArray, List.set_cons_zero, List.set_cons_succ]
        refine wpAnyH_take (i := 2) (v := ?_) rfl (by kernel_rfl) (by kernel_rfl) (by kernel_rfl) (fun _ _ _ h => h) (Or.inl ⟨by rfl, ?_⟩) hHeld ?_
        rotate_left
        · intro w' hSw; try dsimp only at hSw
          obtain ⟨_, c0, c1, c2⟩ := hSw
          go_simp; try (with_reducible rfl)
        try simp only [Act.put, List.getElem_toArray, List.getElem_cons_succ, List.getElem_cons_zero, List.setIfInBounds_toArray, List.set_cons_zero, List.set_cons_succ]
        refine wpAnyH_take (i := 3) (v := ?_) rfl (by kernel_rfl) (by kernel_rfl) (by kernel_rfl) (fun _ _ _ h => h) (Or.inl ⟨by rfl, ?_⟩) hHeld ?_
        rotate_left
        · intro w' hSw; try dsimp only at hSw
          obtain ⟨_, c0, c1, c2⟩ := hSw
          go_simp; try (with_reducible rfl)
        try simp only [Act.put, List.getElem_toArray, List.getElem_cons_succ, List.getElem_cons_zero, List.setIfInBounds_toArray, List.set_cons_zero, List.set_cons_succ]
        refine wpAnyH_take (i := 4) (v := ?_) rfl (by kernel_rfl) (by kernel_rfl) (by kernel_rfl) (fun _ _ _ h => h) (Or.inl ⟨by rfl, ?_⟩) hHeld ?_
        rotate_left
        · intro w' hSw; try dsimp only at hSw
          obtain ⟨_, c0, c1, c2⟩ := hSw
          go_simp; try (with_reducible rfl)
        try simp only [Act.put, List.getElem_toArray, List.getElem_cons_succ, List.getElem_cons_zero, List.setIfInBounds_toArray, List.set_cons_zero, List.set_cons_succ]
        refine wpAnyH_take (i := 5) (v := ?_) rfl (by kernel_rfl) (by kernel_rfl) (by kernel_rfl) (fun _ _ _ h => h) (Or.inl ⟨by rfl, ?_⟩) hHeld ?_
        rotate_left
        · intro w' hSw; try dsimp only at hSw
          obtain ⟨_, c0, c1, c2⟩ := hSw
          go_simp; try (with_reducible rfl)
        try simp only [Act.put, List.getElem_toArray, List.getElem_cons_succ, List.getElem_cons_zero, List.setIfInBounds_toArray, List.set_cons_zero, List.set_cons_succ]
        refine wpAnyH_take (i := 6) (v := ?_) rfl (by kernel_rfl) (by kernel_rfl) (by kernel_rfl) (fun _ _ _ h => h) (Or.inl ⟨by rfl, ?_⟩) hHeld ?_
        rotate_left
        · intro w' hSw; try dsimp only at hSw
          obtain ⟨_, c0, c1, c2⟩ := hSw
          go_simp; try (with_reducible rfl)
        try simp only [Act.put, List.getElem_toArray, List.getElem_cons_succ, List.getElem_cons_zero, List.setIfInBounds_toArray, List.set_cons_zero, List.set_cons_succ]
        refine wpAnyH_take (i := 7) (v := ?_) rfl (by kernel_rfl) (by kernel_rfl) (by kernel_rfl) (fun _ _ _ h => h) (Or.inl ⟨by rfl, ?_⟩) hHeld ?_
        rotate_left
        · intro w' hSw; try dsimp only at hSw
          obtain ⟨_, c0, c1, c2⟩ := hSw
          go_simp; try (with_reducible rfl)
        try simp only [Act.put, List.getElem_toArray, List.getElem_cons_succ, List.getElem_cons_zero, List.setIfInBounds_toArray, List.set_cons_zero, List.set_cons_succ]
        refine wpAnyH_take (i := 8) (v := ?_) rfl (by kernel_rfl) (by kernel_rfl) (by kernel_rfl) (fun _ _ _ h => h) (Or.inl ⟨by rfl, ?_⟩) hHeld ?_
        rotate_left
        · intro w' hSw; try dsimp only at hSw
          obtain ⟨_, c0, c1, c2⟩ := hSw
          go_simp; try (with_reducible rfl)
        try simp only [Act.put, List.getElem_toArray, List.getElem_cons_succ, List.getElem_cons_zero, List.setIfInBounds_toArray, List.set_cons_zero, List.set_cons_succ]
        refine wpAnyH_take (i := 9) (v := ?_) rfl (by kernel_rfl) (by kernel_rfl) (by kernel_rfl) (fun _ _ _ h => h) (Or.inl ⟨by rfl, ?_⟩) hHeld ?_
        rotate_left
        · intro w' hSw; try dsimp only at hSw
          obtain ⟨_, c0, c1, c2⟩ := hSw
          go_simp; try (with_reducible rfl)
        try simp only [Act.put, List.getElem_toArray, List.getElem_cons_succ, List.getElem_cons_zero, List.setIfInBounds_toArray, List.set_cons_zero, List.set_cons_succ]
        refine wpAnyH_take (i := 10) (v := ?_) rfl (by kernel_rfl) (by kernel_rfl) (by kernel_rfl) (fun _ _ _ h => h) (Or.inl ⟨by rfl, ?_⟩) hHeld ?_
        rotate_left
        · intro w' hSw; try dsimp only at hSw
          obtain ⟨_, c0, c1, c2⟩ := hSw
          go_simp; try (with_reducible rfl)
        try simp only [Act.put, List.getElem_toArray, List.getElem_cons_succ, List.getElem_cons_zero, List.setIfInBounds_toArray, List.set_cons_zero, List.set_cons_succ]
        refine wpAnyH_take (i := 11) (v := ?_) rfl (by kernel_rfl) (by kernel_rfl) (by kernel_rfl) (fun _ _ _ h => h) (Or.inl ⟨by rfl, ?_⟩) hHeld ?_
        rotate_left
        · intro w' hSw; try dsimp only at hSw
          obtain ⟨_, c0, c1, c2⟩ := hSw
          go_simp; try (with_reducible rfl)
        try simp only [Act.put, List.getElem_toArray, List.getElem_cons_succ, List.getElem_cons_zero, List.setIfInBounds_toArray, List.set_cons_zero, List.set_cons_succ]
        refine wpAnyH_done (by kernel_rfl) ?_ _
        refine NoPanic.normal ?_
        clear hHeld
        go_wp2
        go_roundw
        case rel => exact ⟨k + 1, by omega, by go_num, by rw [HX.out], by rw [HY.out, HZ.out, List.append_nil, HN.out]; exact ho.drew, hb.drew⟩
        case measure => simp [intOf]; omega
    · obtain rfl : k = n1 := by omega
      have hkn : ¬ (k : Int) < (k : Int) := by omega
      have HF : Hid (t.take k = t) := List.take_of_length_le (by rw [HL.out]; exact Nat.le_refl _)
      rw [HF.out] at ho hrl hat
      rw [HF.out]
      have HY : Hid (holesL B A t = holesTo A t ++ holIf (nextTo A t) B) := holesL_eq B A t
      generalize nextTo A t = q at *
      generalize holesTo A t = rl at *
      obtain ⟨N, hN⟩ : ∃ N, rl.length = N := ⟨_, rfl⟩
      rw [hN] at ho hrl
      rw [hN]
      have HN : Hid (rl.length = N) := hN
      clear hN
      by_cases hg : q < B
      · have HZ : Hid (holIf q B = [⟨q, B - q⟩]) := holIf_yes hg
        have hws : IntKind.i64.wrap (B - q) = B - q := by rw [IntKind.wrap_i64]; omega
        go_wp2_with (at_builtin; refine wpList_append_own _ rfl (.tmp 59) (.tmp 65) 36 rfl w1.heap.size 38 i0 (.agg #[.int .i64 0, .int .i64 0]) 2 16 Try.underlying36 hi hz0 hz1 hz2 rfl (by decide) _ N _ rfl (ho.alloc _) ⟨_, 0, none⟩ 1 1 [.int .i64 q, .int .i64 (B - q)] rfl rfl (new_two _ _ _) (by simp [Value.oneCell']) (by unfold maxLen; omega) (by omega) (by simp; omega) ?_; intro v1 w5 hown5 hgrow5 _)
        have hb5 := below_appP hb (Nat.le_refl _) ho hgrow5
        rw [flatH_snoc rl ⟨q, B - q⟩] at hown5
        obtain ⟨p', c', rfl, hin'⟩ := in_of_ownsH hown5 (by omega)
        go_wp2
        go_ret
        exact ⟨_, _, _, rfl, by rw [HTT.out, HY.out, HZ.out]; exact hin', by omega, hb1.trans (hb5.mono hb1.size)⟩
      · have HZ : Hid (holIf q B = []) := holIf_no hg
        obtain ⟨p', c', hv, hin'⟩ := in_of_ownsH ho (by omega)
        cases hv
        go_wp2
        go_ret
        exact ⟨_, _, _, rfl, by rw [HTT.out, HY.out, HZ.out, List.append_nil]; exact hin', by omega, hb1.trans (hb.mono hb1.size)⟩
end Go.Proofs.Ytmboohadindlfaa
