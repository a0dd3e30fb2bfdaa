/-
  slices.Reverse on a row of the call's own, wherever it begins.
-/
import Derived.Test.YtfgelncfmopibaaSnRot
namespace Go.Proofs.Ytfgelncfmopibaa
open Go.RowKit
/-- k elements from both ends have changed places. -/
def revF (l : List Fd) (k : Nat) : List Fd := (List.range l.length).map fun i => if i < k ∨ l.length - k ≤ i then eF l (l.length - 1 - i) else eF l i
theorem revF_length (l : List Fd) (k : Nat) : (revF l k).length = l.length := by simp [revF]
theorem revF_at {l : List Fd} {k i : Nat} (h : i < l.length) : eF (revF l k) i = if i < k ∨ l.length - k ≤ i then eF l (l.length - 1 - i) else eF l i := by
  simp [eF, revF, h]
theorem extF {xs ys : List Fd} (hl : xs.length = ys.length) (h : ∀ j, j < xs.length → eF xs j = eF ys j) : xs = ys := by
  apply List.ext_getElem hl
  intro j h1 h2
  have := h j h1
  simpa [eF, h1, h2] using this
theorem revF_zero (l : List Fd) : revF l 0 = l := by
  apply extF (revF_length _ _)
  intro j hj
  rw [revF_length] at hj
  rw [revF_at hj, if_neg (by omega)]
theorem eF_set {l : List Fd} {k j : Nat} {r : Fd} (h : k < l.length) : eF (l.set k r) j = if j = k then r else eF l j := by
  by_cases e : k = j
  · subst e; simp [eF, h]
  · rw [if_neg (fun h => e h.symm)]; simp [eF, List.getElem?_set_ne e]
theorem revF_end {l : List Fd} {k : Nat} (h : l.length ≤ 2 * k + 1) : revF l k = l.reverse := by
  apply extF (by rw [revF_length, List.length_reverse])
  intro j hj
  rw [revF_length] at hj
  have hr : eF l.reverse j = eF l (l.length - 1 - j) := by
    simp [eF, List.getElem?_reverse hj]
  rw [revF_at hj, hr]
  split
  · rfl
  · congr 1; omega
theorem swapF {l T : List Fd} {n k jj : Nat} (hT : T = revF l k) (hl : l.length = n) (hk : 2 * k + 1 < n) (hj : jj = n - 1 - k) : (T.set k (eF T jj)).set jj (eF T k) = revF l (k + 1) := by
  subst hT
  apply extF (by rw [List.length_set, List.length_set, revF_length, revF_length])
  intro i hi
  rw [List.length_set, List.length_set, revF_length] at hi
  rw [eF_set (by rw [List.length_set, revF_length]; omega), eF_set (by rw [revF_length]; omega), revF_at (k := k + 1) hi, revF_at (k := k) (show k < l.length by omega), revF_at (k := k) (show jj < l.length by omega)]
  by_cases h1 : i = jj
  · rw [if_pos h1, if_neg (by omega), if_pos (by omega)]
    congr 1; omega
  · rw [if_neg h1]
    by_cases h2 : i = k
    · rw [if_pos h2, if_neg (by omega), if_pos (by omega)]
      congr 1; omega
    · rw [if_neg h2, revF_at (k := k) hi]
      by_cases h3 : i < k ∨ l.length - k ≤ i
      · rw [if_pos h3, if_pos (by omega)]
      · rw [if_neg h3, if_neg (by omega)]
set_option linter.unusedSimpArgs false in
set_option maxRecDepth 100000 in
set_option maxHeartbeats 4000000 in
theorem reverseF_any (B g o n c : Nat) (l : List Fd) (w : World) (h : RowF w g o l) (hl : l.length = n) (hB : B ≤ g) (hn : n ≤ 100000000) :
    Calls Try.prog 30 #[.slice (some ⟨g, o, none⟩) n c] w fun e w' => e = .returned (.tuple #[]) ∧ RowF w' g o l.reverse ∧ Below B w w' := by
  have HL : Hid (l.length = n) := hl
  clear hl
  go_enter Try.func30, Try.ntmps30
  go_wp2
  go_loopw [2, 3] (fun i j wr => ∃ k : Nat, k ≤ n ∧ i = .int .i64 k ∧ j = .int .i64 ((n : Int) - 1 - k) ∧ RowF wr g o (revF l k) ∧ Below B w wr) (fun i _ _ => n - (intOf i).toNat)
  case atStart => exact ⟨0, Nat.zero_le _, rfl, val_int (by omega), by rw [revF_zero]; exact h, Below.refl _ _⟩
  case round =>
    obtain ⟨k, hk, rfl, rfl, hown, hbel⟩ := hrel
    clear h
    by_cases hlt : 2 * k + 1 < n
    · obtain ⟨jj, HJ⟩ : ∃ jj : Nat, Hid (jj = n - 1 - k) := ⟨_, (rfl : n - 1 - k = n - 1 - k)⟩
      have hJ : (n : Int) - 1 - (k : Int) = (jj : Int) := by rw [HJ.out]; omega
      have hkj : (k : Int) < (jj : Int) := by rw [HJ.out]; omega
      have hjn : jj < n := by rw [HJ.out]; omega
      have hkn : k < n := by omega
      have hji : (jj : Int) < (n : Int) := by omega
      have hki : (k : Int) < (n : Int) := by omega
      generalize hT : revF l k = T at *
      have HT : Hid (T = revF l k) := hT.symm
      clear hT
      have HTl : Hid (T.length = n) := by show _ = _; rw [HT.out, revF_length]; exact HL.out
      rw [hJ]
      have HC : Hid (∀ i, i < n → wr.cell? ⟨g, o + i * 6, none⟩ = some (.int .i64 (eF T i).ph) ∧ wr.cell? ⟨g, o + i * 6 + 1, none⟩ = some (.int .i64 (eF T i).pg) ∧ wr.cell? ⟨g, o + i * 6 + 2, none⟩ = some (.int .i64 (eF T i).k) ∧ wr.cell? ⟨g, o + i * 6 + 3, none⟩ = some (.int .i64 (eF T i).p) ∧ wr.cell? ⟨g, o + i * 6 + 4, none⟩ = some (.int .i64 (eF T i).s) ∧ wr.cell? ⟨g, o + i * 6 + 5, none⟩ = some (.int .i64 (eF T i).t)) := fun i hi => hown.elem (by rw [HTl.out]; exact hi)
      go_upto_region 3 with (fail)
      refine wp_region_noPanic ?_
      refine wp_region_held_drew (S := fun _ => True) (by kernel_rfl) trivial (fun hHeld => ?_)
      refine wpAnyH_take (i := 0) (v := ?_) rfl (by kernel_rfl) (by kernel_rfl) (by kernel_rfl) (fun _ _ _ h => h) (Or.inl ⟨by rfl, ?_⟩) hHeld ?_
      rotate_left
      · intro w' hSw; try dsimp only at hSw
        go_simp; try (with_reducible rfl)
      try simp only [Act.put, List.getElem_toArray, List.getElem_cons_succ, List.getElem_cons_zero, List.setIfInBounds_toArray, List.set_cons_zero, List.set_cons_succ]
      refine wpAnyH_take (i := 1) (v := ?_) rfl (by kernel_rfl) (by kernel_rfl) (by kernel_rfl) (fun _ _ _ h => h) (Or.inl ⟨by rfl, ?_⟩) hHeld ?_
      rotate_left
      · intro w' hSw; try dsimp only at hSw
        go_simp; try (with_reducible rfl)
      try simp only [Act.put, List.getElem_toArray, List.getElem_cons_succ, List.getElem_cons_zero, List.setIfInBounds_toArray, List.set_cons_zero, List.set_cons_succ]
      refine wpAnyH_take (i := 2) (v := ?_) rfl (by kernel_rfl) (by kernel_rfl) (by kernel_rfl) (fun _ _ _ h => h) (Or.inl ⟨by rfl, ?_⟩) hHeld ?_
      rotate_left
      · intro w' hSw; try dsimp only at hSw
        go_simp; try (with_reducible rfl)
      try simp only [Act.put, List.getElem_toArray, List.getElem_cons_succ, List.getElem_cons_zero, List.setIfInBounds_toArray, List.set_cons_zero, List.set_cons_succ]
      refine wpAnyH_take (i := 3) (v := ?_) rfl (by kernel_rfl) (by kernel_rfl) (by kernel_rfl) (fun _ _ _ h => h) (Or.inl ⟨by rfl, ?_⟩) hHeld ?_
      rotate_left
      · intro w' hSw; try dsimp only at hSw
        go_simp; try (with_reducible rfl)
      try simp only [Act.put, List.getElem_toArray, List.getElem_cons_succ, List.getElem_cons_zero, List.setIfInBounds_toArray, List.set_cons_zero, List.set_cons_succ]
      refine wpAnyH_take (i := 4) (v := ?_) rfl (by kernel_rfl) (by kernel_rfl) (by kernel_rfl) (fun _ _ _ h => h) (Or.inl ⟨by rfl, ?_⟩) hHeld ?_
      rotate_left
      · intro w' hSw; try dsimp only at hSw
        go_simp; try (with_reducible rfl)
      try simp only [Act.put, List.getElem_toArray, List.getElem_cons_succ, List.getElem_cons_zero, List.setIfInBounds_toArray, List.set_cons_zero, List.set_cons_succ]
      refine wpAnyH_take (i := 5) (v := ?_) rfl (by kernel_rfl) (by kernel_rfl) (by kernel_rfl) (fun _ _ _ h => h) (Or.inl ⟨by rfl, ?_⟩) hHeld ?_
      rotate_left
      · intro w' hSw; try dsimp only at hSw
        go_simp; try (with_reducible rfl)
      try simp only [Act.put, List.getElem_toArray, List.getElem_cons_succ, List.getElem_cons_zero, List.setIfInBounds_toArray, List.set_cons_zero, List.set_cons_succ]
      refine wpAnyH_take (i := 6) (v := ?_) rfl (by kernel_rfl) (by kernel_rfl) (by kernel_rfl) (fun _ _ _ h => h) (Or.inl ⟨by rfl, ?_⟩) hHeld ?_
      rotate_left
      · intro w' hSw; try dsimp only at hSw
        go_simp; try (with_reducible rfl)
      try simp only [Act.put, List.getElem_toArray, List.getElem_cons_succ, List.getElem_cons_zero, List.setIfInBounds_toArray, List.set_cons_zero, List.set_cons_succ]
      refine wpAnyH_take (i := 8) (v := ?_) rfl (by kernel_rfl) (by kernel_rfl) (by kernel_rfl) (fun _ _ _ h => h) (Or.inl ⟨by rfl, ?_⟩) hHeld ?_
      rotate_left
      · intro w' hSw; try dsimp only at hSw
        go_simp; try (with_reducible rfl)
      try simp only [Act.put, List.getElem_toArray, List.getElem_cons_succ, List.getElem_cons_zero, List.setIfInBounds_toArray, List.set_cons_zero, List.set_cons_succ]
      refine wpAnyH_take (i := 9) (v := ?_) rfl (by kernel_rfl) (by kernel_rfl) (by kernel_rfl) (fun _ _ _ h => h) (Or.inl ⟨by rfl, ?_⟩) hHeld ?_
      rotate_left
      · intro w' hSw; try dsimp only at hSw
        go_simp; try (with_reducible rfl)
      try simp only [Act.put, List.getElem_toArray, List.getElem_cons_succ, List.getElem_cons_zero, List.setIfInBounds_toArray, List.set_cons_zero, List.set_cons_succ]
      refine wpAnyH_take (i := 10) (v := ?_) rfl (by kernel_rfl) (by kernel_rfl) (by kernel_rfl) (fun _ _ _ h => h) (Or.inl ⟨by rfl, ?_⟩) hHeld ?_
      rotate_left
      · intro w' hSw; try dsimp only at hSw
        go_simp; try (with_reducible rfl)
      try simp only [Act.put, List.getElem_toArray, List.getElem_cons_succ, List.getElem_cons_zero, List.setIfInBounds_toArray, List.set_cons_zero, List.set_cons_succ]
      refine wpAnyH_ready (rs := [7, 11]) (by kernel_rfl) (by simp) ?_
      refine AllReadyH.cons rfl (fun K hK => ?_) ?_
      · obtain ⟨c0, c1, c2, c3, c4, c5⟩ := HC.out jj (by omega)
        go_simp
        refine hK.out _ _ trivial (fun hHeld => ?_)
        clear hK K
        try simp only [Act.put, List.getElem_toArray, List.getElem_cons_succ, List.getElem_cons_zero, List.setIfInBounds_toArray, List.set_cons_zero, List.set_cons_succ]
        refine wpAnyH_ready (rs := [11]) (by kernel_rfl) (by simp) ?_
        refine AllReadyH.cons rfl (fun K hK => ?_) AllReadyH.nil
        obtain ⟨c0, c1, c2, c3, c4, c5⟩ := HC.out k (by omega)
        go_simp
        refine hK.out _ _ trivial (fun hHeld => ?_)
        clear hK K
        try simp only [Act.put, List.getElem_toArray, List.getElem_cons_succ, List.getElem_cons_zero, List.setIfInBounds_toArray, List.set_cons_zero, List.set_cons_succ]
        refine wpAnyH_take (i := 12) (v := ?_) rfl (by kernel_rfl) (by kernel_rfl) (by kernel_rfl) (fun _ _ _ h => h) (Or.inl ⟨by rfl, ?_⟩) hHeld ?_
        rotate_left
        · intro w' hSw; try dsimp only at hSw
          go_simp; try (with_reducible rfl)
        try simp only [Act.put, List.getElem_toArray, List.getElem_cons_succ, List.getElem_cons_zero, List.setIfInBounds_toArray, List.set_cons_zero, List.set_cons_succ]
        refine wpAnyH_ready (rs := [13]) (by kernel_rfl) (by simp) ?_
        refine AllReadyH.cons rfl (fun K hK => ?_) AllReadyH.nil
        rw [if_pos (by rfl)]
        refine wp_storeRow (.tmp 26) (.tmp 21) rfl g o k (eF T jj) rfl rfl hown.drew (by rw [HTl.out]; exact hkn) ?_
        intro w5 ho5 ht5
        refine hK.out _ _ trivial (fun hHeld => ?_)
        clear hK K
        try simp only [Act.put, List.getElem_toArray, List.getElem_cons_succ, List.getElem_cons_zero, List.setIfInBounds_toArray, List.set_cons_zero, List.set_cons_succ]
        refine wpAnyH_take (i := 14) (v := ?_) rfl (by kernel_rfl) (by kernel_rfl) (by kernel_rfl) (fun _ _ _ h => h) (Or.inl ⟨by rfl, ?_⟩) hHeld ?_
        rotate_left
        · intro w' hSw; try dsimp only at hSw
          go_simp; try (with_reducible rfl)
        try simp only [Act.put, List.getElem_toArray, List.getElem_cons_succ, List.getElem_cons_zero, List.setIfInBounds_toArray, List.set_cons_zero, List.set_cons_succ]
        refine wpAnyH_ready (rs := [15]) (by kernel_rfl) (by simp) ?_
        refine AllReadyH.cons rfl (fun K hK => ?_) AllReadyH.nil
        rw [if_pos (by rfl)]
        refine wp_storeRow (.tmp 27) (.tmp 25) rfl g o jj (eF T k) rfl rfl ho5 (by rw [List.length_set, HTl.out]; exact hjn) ?_
        intro w6 ho6 ht6
        refine hK.out _ _ trivial (fun hHeld => ?_)
        clear hK K
        try simp only [Act.put, List.getElem_toArray, List.getElem_cons_succ, List.getElem_cons_zero, List.setIfInBounds_toArray, List.set_cons_zero, List.set_cons_succ]
        refine wpAnyH_done (by kernel_rfl) ?_ _
        refine NoPanic.normal ?_
        go_wp2_with fail
        go_roundw
        case rel =>
          refine ⟨k + 1, by omega, by go_num, val_int (by omega), ?_, ht6.below (ht5.below hbel.drew hB) hB⟩
          rw [← swapF HT.out HL.out (by omega) HJ.out]; exact ho6
        case measure => simp [intOf]; omega
      refine AllReadyH.cons rfl (fun K hK => ?_) AllReadyH.nil
      obtain ⟨c0, c1, c2, c3, c4, c5⟩ := HC.out k (by omega)
      go_simp
      refine hK.out _ _ trivial (fun hHeld => ?_)
      clear hK K
      try simp only [Act.put, List.getElem_toArray, List.getElem_cons_succ, List.getElem_cons_zero, List.setIfInBounds_toArray, List.set_cons_zero, List.set_cons_succ]
      refine wpAnyH_ready (rs := [7]) (by kernel_rfl) (by simp) ?_
      refine AllReadyH.cons rfl (fun K hK => ?_) AllReadyH.nil
      obtain ⟨c0, c1, c2, c3, c4, c5⟩ := HC.out jj (by omega)
      go_simp
      refine hK.out _ _ trivial (fun hHeld => ?_)
      clear hK K
      try simp only [Act.put, List.getElem_toArray, List.getElem_cons_succ, List.getElem_cons_zero, List.setIfInBounds_toArray, List.set_cons_zero, List.set_cons_succ]
      refine wpAnyH_take (i := 12) (v := ?_) rfl (by kernel_rfl) (by kernel_rfl) (by kernel_rfl) (fun _ _ _ h => h) (Or.inl ⟨by rfl, ?_⟩) hHeld ?_
      rotate_left
      · intro w' hSw; try dsimp only at hSw
        go_simp; try (with_reducible rfl)
      try simp only [Act.put, List.getElem_toArray, List.getElem_cons_succ, List.getElem_cons_zero, List.setIfInBounds_toArray, List.set_cons_zero, List.set_cons_succ]
      refine wpAnyH_ready (rs := [13]) (by kernel_rfl) (by simp) ?_
      refine AllReadyH.cons rfl (fun K hK => ?_) AllReadyH.nil
      rw [if_pos (by rfl)]
      refine wp_storeRow (.tmp 26) (.tmp 21) rfl g o k (eF T jj) rfl rfl hown.drew (by rw [HTl.out]; exact hkn) ?_
      intro w5 ho5 ht5
      refine hK.out _ _ trivial (fun hHeld => ?_)
      clear hK K
      try simp only [Act.put, List.getElem_toArray, List.getElem_cons_succ, List.getElem_cons_zero, List.setIfInBounds_toArray, List.set_cons_zero, List.set_cons_succ]
      refine wpAnyH_take (i := 14) (v := ?_) rfl (by kernel_rfl) (by kernel_rfl) (by kernel_rfl) (fun _ _ _ h => h) (Or.inl ⟨by rfl, ?_⟩) hHeld ?_
      rotate_left
      · intro w' hSw; try dsimp only at hSw
        go_simp; try (with_reducible rfl)
      try simp only [Act.put, List.getElem_toArray, List.getElem_cons_succ, List.getElem_cons_zero, List.setIfInBounds_toArray, List.set_cons_zero, List.set_cons_succ]
      refine wpAnyH_ready (rs := [15]) (by kernel_rfl) (by simp) ?_
      refine AllReadyH.cons rfl (fun K hK => ?_) AllReadyH.nil
      rw [if_pos (by rfl)]
      refine wp_storeRow (.tmp 27) (.tmp 25) rfl g o jj (eF T k) rfl rfl ho5 (by rw [List.length_set, HTl.out]; exact hjn) ?_
      intro w6 ho6 ht6
      refine hK.out _ _ trivial (fun hHeld => ?_)
      clear hK K
      try simp only [Act.put, List.getElem_toArray, List.getElem_cons_succ, List.getElem_cons_zero, List.setIfInBounds_toArray, List.set_cons_zero, List.set_cons_succ]
      refine wpAnyH_done (by kernel_rfl) ?_ _
      refine NoPanic.normal ?_
      go_wp2_with fail
      go_roundw
      case rel =>
        refine ⟨k + 1, by omega, by go_num, val_int (by omega), ?_, ht6.below (ht5.below hbel.drew hB) hB⟩
        rw [← swapF HT.out HL.out (by omega) HJ.out]; exact ho6
      case measure => simp [intOf]; omega
    · have hge : ¬ (k : Int) < (n : Int) - 1 - (k : Int) := by omega
      go_wp2
      go_end0
      rw [revF_end (by have := HL.out; omega)] at hown
      exact ⟨rfl, hown, hbel⟩
end Go.Proofs.Ytfgelncfmopibaa
