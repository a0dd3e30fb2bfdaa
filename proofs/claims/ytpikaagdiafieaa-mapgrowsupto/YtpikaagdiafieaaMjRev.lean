/-
  What slices.Reverse makes of a row of records of the call's own.
-/
import Derived.Test.YtpikaagdiafieaaMjRecs
namespace Go.Proofs.Ytpikaagdiafieaa
open Go.RowKit
theorem flatM_set {l : List MR} {k : Nat} (r : MR) (h : k < l.length) : (((flatM l).set (k * 3) (.int .i64 r.kind)).set (k * 3 + 1) (.int .i64 r.block)).set (k * 3 + 2) (.int .i64 r.value) = flatM (l.set k r) := by
  induction l generalizing k with
  | nil => simp at h
  | cons y l ih =>
    have e : ∀ (y : MR) (l : List MR), flatM (y :: l) = .int .i64 y.kind :: .int .i64 y.block :: .int .i64 y.value :: flatM l := fun _ _ => rfl
    cases k with
    | zero =>
      show _ = flatM (r :: l)
      rw [e, e]; simp
    | succ k =>
      rw [e, List.set_cons_succ, e, ← ih (by simpa using h), show (k + 1) * 3 = k * 3 + 1 + 1 + 1 by omega]
      simp
theorem Turned.trans {a b c : World} {g : Nat} (h : Turned a b g) (k : Turned b c g) : Turned a c g := ⟨k.os.trans h.os, k.tape.trans h.tape, k.output.trans h.output, k.size.trans h.size, fun j hj => (k.block j hj).trans (h.block j hj)⟩
theorem ownsR_drew {w : World} {B : Nat} {v : Value} {n : Nat} {xs : List Value} (h : w.ownsRow B 65 3 v n xs) : w.drew.ownsRow B 65 3 v n xs := owns_below h (Below.refl _ _).drew
theorem sizeR : (Try.prog.info? 65).map (·.size) = some 3 := by kernel_rfl
theorem run_store_rec {w : World} {B g n c k : Nat} {l : List MR} (h : w.ownsRow B 65 3 (.slice (some ⟨g, 0, none⟩) n c) n (flatM l)) (hk : k < n) (r : MR) :
    ∃ w', (storeVar 65 ⟨g, k * 3, none⟩ r.val).run Try.prog w = .ok () w' ∧ w'.ownsRow B 65 3 (.slice (some ⟨g, 0, none⟩) n c) n (flatM (l.set k r)) ∧ Turned w w' g := by
  have hl : l.length = n := by have := h.1; rw [flatM_length] at this; omega
  obtain ⟨f0, f1, f2⟩ := flatM_at (l := l) (k := k) (by omega)
  have c0 := (h.cellAt (k * 3) (by omega)).trans f0
  have c1 := (h.cellAt (k * 3 + 1) (by omega)).trans f1
  have c2 := (h.cellAt (k * 3 + 2) (by omega)).trans f2
  have hst := run_storeCells_cells (P := Try.prog) g (k * 3) [.int .i64 r.kind, .int .i64 r.block, .int .i64 r.value] 0 w (fun j hj => by
      match j, hj with
      | 0, _ => simp [c0]
      | 1, _ => simp [c1]
      | 2, _ => simp [c2]) (fun j _ => by simpa using h.frozenAt (k * 3 + (0 + j))) (by simp [Value.oneCell'])
  have hs := (((h.stored (k * 3) (.int .i64 r.kind)).1.stored (k * 3 + 1) (.int .i64 r.block)).1.stored (k * 3 + 2) (.int .i64 r.value)).1
  rw [flatM_set r (by omega)] at hs
  refine ⟨_, ?_, hs, ((Turned.setCell w ⟨g, k * 3, none⟩ _).trans (Turned.setCell _ ⟨g, k * 3 + 1, none⟩ _)).trans (Turned.setCell _ ⟨g, k * 3 + 2, none⟩ _)⟩
  cases hq : Try.prog.info? 65 with
  | none => have := sizeR; simp [hq] at this
  | some i =>
    have hsz : i.size = 3 := by have := sizeR; simpa [hq] using this
    simp only [storeVar, sizeOf, typeInfo, Sem.run_bind, Value.cells]
    simp [hsz, hq, hst, World.setCells]
theorem wp_store_rec {op : Oper} {a : Act} {w : World} {K : Act → World → Prop} {Q : Exit → Act → World → Prop} (x y : Operand) (ho : op.op = .store 65 x y) (g k : Nat) (r : MR) (hx : a.eval x = .pointer (some ⟨g, k * 3, none⟩)) (hy : a.eval y = r.val)
    {B n c : Nat} {l : List MR} (h : w.ownsRow B 65 3 (.slice (some ⟨g, 0, none⟩) n c) n (flatM l)) (hk : k < n)
    (hK : ∀ w', w'.ownsRow B 65 3 (.slice (some ⟨g, 0, none⟩) n c) n (flatM (l.set k r)) → Turned w w' g → K (a.put op.dst undef) w') : op.wp Try.prog a w K Q := by
  obtain ⟨w', hrun, hown, ht⟩ := run_store_rec h hk r
  unfold Oper.wp execOp
  simp only [ho, hx, hy, Instr.storeAt, Instr.sureAddr, Sem.run_bind, Sem.run_pure, Result.andThen_ok, hrun]
  exact hK _ hown ht
/-- k elements from both ends have changed places. -/
def revTo (l : List MR) (k : Nat) : List MR := (List.range l.length).map fun i => if i < k ∨ l.length - k ≤ i then eR l (l.length - 1 - i) else eR l i
theorem revTo_length (l : List MR) (k : Nat) : (revTo l k).length = l.length := by simp [revTo]
theorem revTo_at {l : List MR} {k i : Nat} (h : i < l.length) : eR (revTo l k) i = if i < k ∨ l.length - k ≤ i then eR l (l.length - 1 - i) else eR l i := by
  simp [eR, revTo, h]
theorem extR {xs ys : List MR} (hl : xs.length = ys.length) (h : ∀ j, j < xs.length → eR xs j = eR ys j) : xs = ys := by
  apply List.ext_getElem hl
  intro j h1 h2
  have := h j h1
  simpa [eR, h1, h2] using this
theorem revTo_zero (l : List MR) : revTo l 0 = l := by
  apply extR (revTo_length _ _)
  intro j hj
  rw [revTo_length] at hj
  rw [revTo_at hj, if_neg (by omega)]
theorem eR_set {l : List MR} {k j : Nat} {r : MR} (h : k < l.length) : eR (l.set k r) j = if j = k then r else eR l j := by
  by_cases e : k = j
  · subst e; simp [eR, h]
  · rw [if_neg (fun h => e h.symm)]; simp [eR, List.getElem?_set_ne e]
theorem revTo_end {l : List MR} {k : Nat} (h : l.length ≤ 2 * k + 1) : revTo l k = l.reverse := by
  apply extR (by rw [revTo_length, List.length_reverse])
  intro j hj
  rw [revTo_length] at hj
  have hr : eR l.reverse j = eR l (l.length - 1 - j) := by
    simp [eR, List.getElem?_reverse hj]
  rw [revTo_at hj, hr]
  split
  · rfl
  · congr 1; omega
theorem swap_rev {l T : List MR} {n k jj : Nat} (hT : T = revTo l k) (hl : l.length = n) (hk : 2 * k + 1 < n) (hj : jj = n - 1 - k) : (T.set k (eR T jj)).set jj (eR T k) = revTo l (k + 1) := by
  subst hT
  apply extR (by rw [List.length_set, List.length_set, revTo_length, revTo_length])
  intro i hi
  rw [List.length_set, List.length_set, revTo_length] at hi
  rw [eR_set (by rw [List.length_set, revTo_length]; omega), eR_set (by rw [revTo_length]; omega), revTo_at (k := k + 1) hi, revTo_at (k := k) (show k < l.length by omega), revTo_at (k := k) (show jj < l.length by omega)]
  by_cases h1 : i = jj
  · rw [if_pos h1, if_neg (by omega), if_pos (by omega)]
    congr 1; omega
  · rw [if_neg h1]
    by_cases h2 : i = k
    · rw [if_pos h2, if_neg (by omega), if_pos (by omega)]
      congr 1; omega
    · rw [if_neg h2, revTo_at (k := k) hi]
      by_cases h3 : i < k ∨ l.length - k ≤ i
      · rw [if_pos h3, if_pos (by omega)]
      · rw [if_neg h3, if_neg (by omega)]
set_option linter.unusedSimpArgs false in
set_option maxRecDepth 100000 in
set_option maxHeartbeats 4000000 in
theorem reverseR_any (B : Nat) (p : Option Addr) (n c : Nat) (l : List MR) (w : World) (h : w.ownsRow B 65 3 (.slice p n c) n (flatM l)) (hn : n ≤ 1000000000000) :
    Calls Try.prog 42 #[.slice p n c] w fun e w' => e = .returned (.tuple #[]) ∧ w'.ownsRow B 65 3 (.slice p n c) n (flatM l.reverse) ∧ Below B w w' := by
  have HL : Hid (l.length = n) := by show _ = _; have := h.1; rw [flatM_length] at this; omega
  go_enter Try.func42, Try.ntmps42
  go_wp2
  go_loopw [2, 3] (fun i j wr => ∃ k : Nat, k ≤ n ∧ i = .int .i64 k ∧ j = .int .i64 ((n : Int) - 1 - k) ∧ wr.ownsRow B 65 3 (.slice p n c) n (flatM (revTo l k)) ∧ Below B w wr) (fun i _ _ => n - (intOf i).toNat)
  case atStart => exact ⟨0, Nat.zero_le _, rfl, val_int (by omega), by rw [revTo_zero]; exact h, Below.refl _ _⟩
  case round =>
    obtain ⟨k, hk, rfl, rfl, hown, hbel⟩ := hrel
    by_cases hlt : 2 * k + 1 < n
    · obtain ⟨jj, HJ⟩ : ∃ jj : Nat, Hid (jj = n - 1 - k) := ⟨_, (rfl : n - 1 - k = n - 1 - k)⟩
      have hJ : (n : Int) - 1 - (k : Int) = (jj : Int) := by rw [HJ.out]; omega
      have hkj : (k : Int) < (jj : Int) := by rw [HJ.out]; omega
      have hjn : jj < n := by rw [HJ.out]; omega
      have hkn : k < n := by omega
      have hji : (jj : Int) < (n : Int) := by omega
      have hki : (k : Int) < (n : Int) := by omega
      obtain ⟨g, hp, hgB, hgl⟩ : ∃ g, p = some ⟨g, 0, none⟩ ∧ B ≤ g ∧ g < wr.heap.size := by
        rcases hown.2 with ⟨_, h0⟩ | ⟨g, cap, cur, hv, hb, hg, _⟩
        · omega
        · simp only [Value.slice.injEq] at hv
          refine ⟨g, hv.1, hb, ?_⟩
          rcases Nat.lt_or_ge g wr.heap.size with h' | h'
          · exact h'
          · rw [Array.getElem?_eq_none h'] at hg; simp at hg
      subst hp
      generalize hT : revTo l k = T at *
      have HT : Hid (T = revTo l k) := hT.symm
      clear hT
      rw [hJ]
      have HC : Hid (∀ i, i < n → wr.cell? ⟨g, i * 3, none⟩ = some (.int .i64 (eR T i).kind) ∧ wr.cell? ⟨g, i * 3 + 1, none⟩ = some (.int .i64 (eR T i).block) ∧ wr.cell? ⟨g, i * 3 + 2, none⟩ = some (.int .i64 (eR T i).value)) := fun i hi => by
        have htl : T.length = n := by rw [HT.out, revTo_length]; exact HL.out
        obtain ⟨f0, f1, f2⟩ := flatM_at (l := T) (k := i) (by omega)
        exact ⟨(hown.cellAt (i * 3) (by omega)).trans f0, (hown.cellAt (i * 3 + 1) (by omega)).trans f1, (hown.cellAt (i * 3 + 2) (by omega)).trans f2⟩
      go_upto_region 3 with (fail)
      refine wp_region_noPanic ?_
      refine wp_region_held_drew (S := fun _ => True) (by kernel_rfl) trivial (fun hHeld => ?_)
      refine wpAnyH_take (i := 0) (v := ?_) rfl (by kernel_rfl) (by kernel_rfl) (by kernel_rfl) (fun _ _ _ h => h) (Or.inl ⟨by rfl, ?_⟩) hHeld ?_
      rotate_left
      · intro w' hSw; try dsimp only at hSw
        go_simp; try (with_reducible rfl)
      try simp only [Act.put, List.getElem_toArray, List.getElem_cons_succ, List.getElem_cons_zero, List.setIfInBounds_toArray, List.set_cons_zero, List.set_cons_succ]
      refine wpAnyH_take (i := 1) (v := ?_) rfl (by kernel_rfl) (by kernel_rfl) (by kernel_rfl) (fun _ _ _ h => h) (Or.inl ⟨by rfl, ?_⟩) hHeld ?_
      rotate_left
      · intro w' hSw; try dsimp only at hSw
        go_simp; try (with_reducible rfl)
      try simp only [Act.put, List.getElem_toArray, List.getElem_cons_succ, List.getElem_cons_zero, List.setIfInBounds_toArray, List.set_cons_zero, List.set_cons_succ]
      refine wpAnyH_take (i := 2) (v := ?_) rfl (by kernel_rfl) (by kernel_rfl) (by kernel_rfl) (fun _ _ _ h => h) (Or.inl ⟨by rfl, ?_⟩) hHeld ?_
      rotate_left
      · intro w' hSw; try dsimp only at hSw
        go_simp; try (with_reducible rfl)
      try simp only [Act.put, List.getElem_toArray, List.getElem_cons_succ, List.getElem_cons_zero, List.setIfInBounds_toArray, List.set_cons_zero, List.set_cons_succ]
      refine wpAnyH_take (i := 3) (v := ?_) rfl (by kernel_rfl) (by kernel_rfl) (by kernel_rfl) (fun _ _ _ h => h) (Or.inl ⟨by rfl, ?_⟩) hHeld ?_
      rotate_left
      · intro w' hSw; try dsimp only at hSw
        go_simp; try (with_reducible rfl)
      try simp only [Act.put, List.getElem_toArray, List.getElem_cons_succ, List.getElem_cons_zero, List.setIfInBounds_toArray, List.set_cons_zero, List.set_cons_succ]
      refine wpAnyH_take (i := 4) (v := ?_) rfl (by kernel_rfl) (by kernel_rfl) (by kernel_rfl) (fun _ _ _ h => h) (Or.inl ⟨by rfl, ?_⟩) hHeld ?_
      rotate_left
      · intro w' hSw; try dsimp only at hSw
        go_simp; try (with_reducible rfl)
      try simp only [Act.put, List.getElem_toArray, List.getElem_cons_succ, List.getElem_cons_zero, List.setIfInBounds_toArray, List.set_cons_zero, List.set_cons_succ]
      refine wpAnyH_take (i := 5) (v := ?_) rfl (by kernel_rfl) (by kernel_rfl) (by kernel_rfl) (fun _ _ _ h => h) (Or.inl ⟨by rfl, ?_⟩) hHeld ?_
      rotate_left
      · intro w' hSw; try dsimp only at hSw
        go_simp; try (with_reducible rfl)
      try simp only [Act.put, List.getElem_toArray, List.getElem_cons_succ, List.getElem_cons_zero, List.setIfInBounds_toArray, List.set_cons_zero, List.set_cons_succ]
      refine wpAnyH_take (i := 6) (v := ?_) rfl (by kernel_rfl) (by kernel_rfl) (by kernel_rfl) (fun _ _ _ h => h) (Or.inl ⟨by rfl, ?_⟩) hHeld ?_
      rotate_left
      · intro w' hSw; try dsimp only at hSw
        go_simp; try (with_reducible rfl)
      try simp only [Act.put, List.getElem_toArray, List.getElem_cons_succ, List.getElem_cons_zero, List.setIfInBounds_toArray, List.set_cons_zero, List.set_cons_succ]
      refine wpAnyH_take (i := 8) (v := ?_) rfl (by kernel_rfl) (by kernel_rfl) (by kernel_rfl) (fun _ _ _ h => h) (Or.inl ⟨by rfl, ?_⟩) hHeld ?_
      rotate_left
      · intro w' hSw; try dsimp only at hSw
        go_simp; try (with_reducible rfl)
      try simp only [Act.put, List.getElem_toArray, List.getElem_cons_succ, List.getElem_cons_zero, List.setIfInBounds_toArray, List.set_cons_zero, List.set_cons_succ]
      refine wpAnyH_take (i := 9) (v := ?_) rfl (by kernel_rfl) (by kernel_rfl) (by kernel_rfl) (fun _ _ _ h => h) (Or.inl ⟨by rfl, ?_⟩) hHeld ?_
      rotate_left
      · intro w' hSw; try dsimp only at hSw
        go_simp; try (with_reducible rfl)
      try simp only [Act.put, List.getElem_toArray, List.getElem_cons_succ, List.getElem_cons_zero, List.setIfInBounds_toArray, List.set_cons_zero, List.set_cons_succ]
      refine wpAnyH_take (i := 10) (v := ?_) rfl (by kernel_rfl) (by kernel_rfl) (by kernel_rfl) (fun _ _ _ h => h) (Or.inl ⟨by rfl, ?_⟩) hHeld ?_
      rotate_left
      · intro w' hSw; try dsimp only at hSw
        go_simp; try (with_reducible rfl)
      try simp only [Act.put, List.getElem_toArray, List.getElem_cons_succ, List.getElem_cons_zero, List.setIfInBounds_toArray, List.set_cons_zero, List.set_cons_succ]
      refine wpAnyH_ready (rs := [7, 11]) (by kernel_rfl) (by simp) ?_
      refine AllReadyH.cons rfl (fun K hK => ?_) ?_
      · obtain ⟨c0, c1, c2⟩ := HC.out jj (by omega)
        go_simp
        refine hK.out _ _ trivial (fun hHeld => ?_)
        clear hK K
        try simp only [Act.put, List.getElem_toArray, List.getElem_cons_succ, List.getElem_cons_zero, List.setIfInBounds_toArray, List.set_cons_zero, List.set_cons_succ]
        refine wpAnyH_ready (rs := [11]) (by kernel_rfl) (by simp) ?_
        refine AllReadyH.cons rfl (fun K hK => ?_) AllReadyH.nil
        obtain ⟨c0, c1, c2⟩ := HC.out k (by omega)
        go_simp
        refine hK.out _ _ trivial (fun hHeld => ?_)
        clear hK K
        try simp only [Act.put, List.getElem_toArray, List.getElem_cons_succ, List.getElem_cons_zero, List.setIfInBounds_toArray, List.set_cons_zero, List.set_cons_succ]
        refine wpAnyH_take (i := 12) (v := ?_) rfl (by kernel_rfl) (by kernel_rfl) (by kernel_rfl) (fun _ _ _ h => h) (Or.inl ⟨by rfl, ?_⟩) hHeld ?_
        rotate_left
        · intro w' hSw; try dsimp only at hSw
          go_simp; try (with_reducible rfl)
        try simp only [Act.put, List.getElem_toArray, List.getElem_cons_succ, List.getElem_cons_zero, List.setIfInBounds_toArray, List.set_cons_zero, List.set_cons_succ]
        refine wpAnyH_ready (rs := [13]) (by kernel_rfl) (by simp) ?_
        refine AllReadyH.cons rfl (fun K hK => ?_) AllReadyH.nil
        rw [if_pos (by rfl)]
        refine wp_store_rec (.tmp 26) (.tmp 21) rfl g k (eR T jj) rfl rfl (ownsR_drew hown) hkn ?_
        intro w5 ho5 ht5
        refine hK.out _ _ trivial (fun hHeld => ?_)
        clear hK K
        try simp only [Act.put, List.getElem_toArray, List.getElem_cons_succ, List.getElem_cons_zero, List.setIfInBounds_toArray, List.set_cons_zero, List.set_cons_succ]
        refine wpAnyH_take (i := 14) (v := ?_) rfl (by kernel_rfl) (by kernel_rfl) (by kernel_rfl) (fun _ _ _ h => h) (Or.inl ⟨by rfl, ?_⟩) hHeld ?_
        rotate_left
        · intro w' hSw; try dsimp only at hSw
          go_simp; try (with_reducible rfl)
        try simp only [Act.put, List.getElem_toArray, List.getElem_cons_succ, List.getElem_cons_zero, List.setIfInBounds_toArray, List.set_cons_zero, List.set_cons_succ]
        refine wpAnyH_ready (rs := [15]) (by kernel_rfl) (by simp) ?_
        refine AllReadyH.cons rfl (fun K hK => ?_) AllReadyH.nil
        rw [if_pos (by rfl)]
        refine wp_store_rec (.tmp 27) (.tmp 25) rfl g jj (eR T k) rfl rfl ho5 hjn ?_
        intro w6 ho6 ht6
        refine hK.out _ _ trivial (fun hHeld => ?_)
        clear hK K
        try simp only [Act.put, List.getElem_toArray, List.getElem_cons_succ, List.getElem_cons_zero, List.setIfInBounds_toArray, List.set_cons_zero, List.set_cons_succ]
        refine wpAnyH_done (by kernel_rfl) ?_ _
        refine NoPanic.normal ?_
        go_wp2_with fail
        go_roundw
        case rel =>
          refine ⟨k + 1, by omega, by go_num, val_int (by omega), ?_, ht6.below (ht5.below hbel.drew hgB) hgB⟩
          rw [← swap_rev HT.out HL.out (by omega) HJ.out]; exact ho6
        case measure => simp [intOf]; omega
      refine AllReadyH.cons rfl (fun K hK => ?_) AllReadyH.nil
      obtain ⟨c0, c1, c2⟩ := HC.out k (by omega)
      go_simp
      refine hK.out _ _ trivial (fun hHeld => ?_)
      clear hK K
      try simp only [Act.put, List.getElem_toArray, List.getElem_cons_succ, List.getElem_cons_zero, List.setIfInBounds_toArray, List.set_cons_zero, List.set_cons_succ]
      refine wpAnyH_ready (rs := [7]) (by kernel_rfl) (by simp) ?_
      refine AllReadyH.cons rfl (fun K hK => ?_) AllReadyH.nil
      obtain ⟨c0, c1, c2⟩ := HC.out jj (by omega)
      go_simp
      refine hK.out _ _ trivial (fun hHeld => ?_)
      clear hK K
      try simp only [Act.put, List.getElem_toArray, List.getElem_cons_succ, List.getElem_cons_zero, List.setIfInBounds_toArray, List.set_cons_zero, List.set_cons_succ]
      refine wpAnyH_take (i := 12) (v := ?_) rfl (by kernel_rfl) (by kernel_rfl) (by kernel_rfl) (fun _ _ _ h => h) (Or.inl ⟨by rfl, ?_⟩) hHeld ?_
      rotate_left
      · intro w' hSw; try dsimp only at hSw
        go_simp; try (with_reducible rfl)
      try simp only [Act.put, List.getElem_toArray, List.getElem_cons_succ, List.getElem_cons_zero, List.setIfInBounds_toArray, List.set_cons_zero, List.set_cons_succ]
      refine wpAnyH_ready (rs := [13]) (by kernel_rfl) (by simp) ?_
      refine AllReadyH.cons rfl (fun K hK => ?_) AllReadyH.nil
      rw [if_pos (by rfl)]
      refine wp_store_rec (.tmp 26) (.tmp 21) rfl g k (eR T jj) rfl rfl (ownsR_drew hown) hkn ?_
      intro w5 ho5 ht5
      refine hK.out _ _ trivial (fun hHeld => ?_)
      clear hK K
      try simp only [Act.put, List.getElem_toArray, List.getElem_cons_succ, List.getElem_cons_zero, List.setIfInBounds_toArray, List.set_cons_zero, List.set_cons_succ]
      refine wpAnyH_take (i := 14) (v := ?_) rfl (by kernel_rfl) (by kernel_rfl) (by kernel_rfl) (fun _ _ _ h => h) (Or.inl ⟨by rfl, ?_⟩) hHeld ?_
      rotate_left
      · intro w' hSw; try dsimp only at hSw
        go_simp; try (with_reducible rfl)
      try simp only [Act.put, List.getElem_toArray, List.getElem_cons_succ, List.getElem_cons_zero, List.setIfInBounds_toArray, List.set_cons_zero, List.set_cons_succ]
      refine wpAnyH_ready (rs := [15]) (by kernel_rfl) (by simp) ?_
      refine AllReadyH.cons rfl (fun K hK => ?_) AllReadyH.nil
      rw [if_pos (by rfl)]
      refine wp_store_rec (.tmp 27) (.tmp 25) rfl g jj (eR T k) rfl rfl ho5 hjn ?_
      intro w6 ho6 ht6
      refine hK.out _ _ trivial (fun hHeld => ?_)
      clear hK K
      try simp only [Act.put, List.getElem_toArray, List.getElem_cons_succ, List.getElem_cons_zero, List.setIfInBounds_toArray, List.set_cons_zero, List.set_cons_succ]
      refine wpAnyH_done (by kernel_rfl) ?_ _
      refine NoPanic.normal ?_
      go_wp2_with fail
      go_roundw
      case rel =>
        refine ⟨k + 1, by omega, by go_num, val_int (by omega), ?_, ht6.below (ht5.below hbel.drew hgB) hgB⟩
        rw [← swap_rev HT.out HL.out (by omega) HJ.out]; exact ho6
      case measure => simp [intOf]; omega
    · have hge : ¬ (k : Int) < (n : Int) - 1 - (k : Int) := by omega
      go_wp2
      go_end0
      rw [revTo_end (by have := HL.out; omega)] at hown
      exact ⟨rfl, hown, hbel⟩
end Go.Proofs.Ytpikaagdiafieaa
