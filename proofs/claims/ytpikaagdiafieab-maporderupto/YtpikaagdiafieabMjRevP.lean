/-
  What slices.Reverse makes of a row of pages of the call's own.
-/
import Derived.Test.YtpikaagdiafieabMjQ
namespace Go.Proofs.Ytpikaagdiafieab
open Go.RowKit
theorem flatQ_set {l : List QP} {k : Nat} (r : QP) (h : k < l.length) : (((((((flatQ l).set (k * 7) (.int .i64 r.2.kind)).set (k * 7 + 1) (.int .i64 r.2.gen)).set (k * 7 + 2) (.int .i64 r.2.part)).set (k * 7 + 3) (.int .i64 r.2.seq)).set (k * 7 + 4) (.slice r.1.pb r.1.nb r.1.cb)).set (k * 7 + 5) (.slice r.1.pw r.1.nw r.1.cw)).set (k * 7 + 6) (.slice r.1.pr r.1.nr r.1.cr) = flatQ (l.set k r) := by
  induction l generalizing k with
  | nil => simp at h
  | cons y l ih =>
    cases k with
    | zero =>
      show _ = flatQ (r :: l)
      rw [flatQ_cons, flatQ_cons]; simp
    | succ k =>
      rw [flatQ_cons, List.set_cons_succ, flatQ_cons, ← ih (by simpa using h), show (k + 1) * 7 = k * 7 + 1 + 1 + 1 + 1 + 1 + 1 + 1 by omega]
      simp
theorem Turned.trans {a b c : World} {g : Nat} (h : Turned a b g) (k : Turned b c g) : Turned a c g := ⟨k.os.trans h.os, k.tape.trans h.tape, k.output.trans h.output, k.size.trans h.size, fun j hj => (k.block j hj).trans (h.block j hj)⟩
theorem ownsQ_drew {w : World} {B : Nat} {v : Value} {n : Nat} {xs : List Value} (h : w.ownsRow B 34 7 v n xs) : w.drew.ownsRow B 34 7 v n xs := owns_below h (Below.refl _ _).drew
theorem sizeQ : (Try.prog.info? 34).map (·.size) = some 7 := by kernel_rfl
theorem run_store_page {w : World} {B g n c k : Nat} {l : List QP} (h : w.ownsRow B 34 7 (.slice (some ⟨g, 0, none⟩) n c) n (flatQ l)) (hk : k < n) (r : QP) :
    ∃ w', (storeVar 34 ⟨g, k * 7, none⟩ (PV.val r.1 r.2)).run Try.prog w = .ok () w' ∧ w'.ownsRow B 34 7 (.slice (some ⟨g, 0, none⟩) n c) n (flatQ (l.set k r)) ∧ Turned w w' g := by
  have hl : l.length = n := by have := h.1; rw [flatQ_length] at this; omega
  obtain ⟨f0, f1, f2, f3, f4, f5, f6⟩ := flatQ_at (l := l) (k := k) (by omega)
  have c0 := (h.cellAt (k * 7) (by omega)).trans f0
  have c1 := (h.cellAt (k * 7 + 1) (by omega)).trans f1
  have c2 := (h.cellAt (k * 7 + 2) (by omega)).trans f2
  have c3 := (h.cellAt (k * 7 + 3) (by omega)).trans f3
  have c4 := (h.cellAt (k * 7 + 4) (by omega)).trans f4
  have c5 := (h.cellAt (k * 7 + 5) (by omega)).trans f5
  have c6 := (h.cellAt (k * 7 + 6) (by omega)).trans f6
  have hst := run_storeCells_cells (P := Try.prog) g (k * 7) [.int .i64 r.2.kind, .int .i64 r.2.gen, .int .i64 r.2.part, .int .i64 r.2.seq, .slice r.1.pb r.1.nb r.1.cb, .slice r.1.pw r.1.nw r.1.cw, .slice r.1.pr r.1.nr r.1.cr] 0 w (fun j hj => by
      match j, hj with
      | 0, _ => simp [c0]
      | 1, _ => simp [c1]
      | 2, _ => simp [c2]
      | 3, _ => simp [c3]
      | 4, _ => simp [c4]
      | 5, _ => simp [c5]
      | 6, _ => simp [c6]) (fun j _ => by simpa using h.frozenAt (k * 7 + (0 + j))) (by simp [Value.oneCell'])
  have hs := (((((((h.stored (k * 7) (.int .i64 r.2.kind)).1.stored (k * 7 + 1) (.int .i64 r.2.gen)).1.stored (k * 7 + 2) (.int .i64 r.2.part)).1.stored (k * 7 + 3) (.int .i64 r.2.seq)).1.stored (k * 7 + 4) (.slice r.1.pb r.1.nb r.1.cb)).1.stored (k * 7 + 5) (.slice r.1.pw r.1.nw r.1.cw)).1.stored (k * 7 + 6) (.slice r.1.pr r.1.nr r.1.cr)).1
  rw [flatQ_set r (by omega)] at hs
  refine ⟨_, ?_, hs, ((((((Turned.setCell w ⟨g, k * 7, none⟩ _).trans (Turned.setCell _ ⟨g, k * 7 + 1, none⟩ _)).trans (Turned.setCell _ ⟨g, k * 7 + 2, none⟩ _)).trans (Turned.setCell _ ⟨g, k * 7 + 3, none⟩ _)).trans (Turned.setCell _ ⟨g, k * 7 + 4, none⟩ _)).trans (Turned.setCell _ ⟨g, k * 7 + 5, none⟩ _)).trans (Turned.setCell _ ⟨g, k * 7 + 6, none⟩ _)⟩
  cases hq : Try.prog.info? 34 with
  | none => have := sizeQ; simp [hq] at this
  | some i =>
    have hsz : i.size = 7 := by have := sizeQ; simpa [hq] using this
    simp only [storeVar, sizeOf, typeInfo, Sem.run_bind, Value.cells]
    simp [hsz, hq, hst, World.setCells]
theorem wp_store_page {op : Oper} {a : Act} {w : World} {K : Act → World → Prop} {Q : Exit → Act → World → Prop} (x y : Operand) (ho : op.op = .store 34 x y) (g k : Nat) (r : QP) (hx : a.eval x = .pointer (some ⟨g, k * 7, none⟩)) (hy : a.eval y = PV.val r.1 r.2)
    {B n c : Nat} {l : List QP} (h : w.ownsRow B 34 7 (.slice (some ⟨g, 0, none⟩) n c) n (flatQ l)) (hk : k < n)
    (hK : ∀ w', w'.ownsRow B 34 7 (.slice (some ⟨g, 0, none⟩) n c) n (flatQ (l.set k r)) → Turned w w' g → K (a.put op.dst undef) w') : op.wp Try.prog a w K Q := by
  obtain ⟨w', hrun, hown, ht⟩ := run_store_page h hk r
  unfold Oper.wp execOp
  simp only [ho, hx, hy, Instr.storeAt, Instr.sureAddr, Sem.run_bind, Sem.run_pure, Result.andThen_ok, hrun]
  exact hK _ hown ht
/-- k elements from both ends have changed places. -/
def revQ (l : List QP) (k : Nat) : List QP := (List.range l.length).map fun i => if i < k ∨ l.length - k ≤ i then eQ l (l.length - 1 - i) else eQ l i
theorem revQ_length (l : List QP) (k : Nat) : (revQ l k).length = l.length := by simp [revQ]
theorem revQ_at {l : List QP} {k i : Nat} (h : i < l.length) : eQ (revQ l k) i = if i < k ∨ l.length - k ≤ i then eQ l (l.length - 1 - i) else eQ l i := by
  simp [eQ, revQ, h]
theorem extQ {xs ys : List QP} (hl : xs.length = ys.length) (h : ∀ j, j < xs.length → eQ xs j = eQ ys j) : xs = ys := by
  apply List.ext_getElem hl
  intro j h1 h2
  have := h j h1
  simpa [eQ, h1, h2] using this
theorem revQ_zero (l : List QP) : revQ l 0 = l := by
  apply extQ (revQ_length _ _)
  intro j hj
  rw [revQ_length] at hj
  rw [revQ_at hj, if_neg (by omega)]
theorem eQ_set {l : List QP} {k j : Nat} {r : QP} (h : k < l.length) : eQ (l.set k r) j = if j = k then r else eQ l j := by
  by_cases e : k = j
  · subst e; simp [eQ, h]
  · rw [if_neg (fun h => e h.symm)]; simp [eQ, List.getElem?_set_ne e]
theorem revQ_end {l : List QP} {k : Nat} (h : l.length ≤ 2 * k + 1) : revQ l k = l.reverse := by
  apply extQ (by rw [revQ_length, List.length_reverse])
  intro j hj
  rw [revQ_length] at hj
  have hr : eQ l.reverse j = eQ l (l.length - 1 - j) := by
    simp [eQ, List.getElem?_reverse hj]
  rw [revQ_at hj, hr]
  split
  · rfl
  · congr 1; omega
theorem swapQ {l T : List QP} {n k jj : Nat} (hT : T = revQ l k) (hl : l.length = n) (hk : 2 * k + 1 < n) (hj : jj = n - 1 - k) : (T.set k (eQ T jj)).set jj (eQ T k) = revQ l (k + 1) := by
  subst hT
  apply extQ (by rw [List.length_set, List.length_set, revQ_length, revQ_length])
  intro i hi
  rw [List.length_set, List.length_set, revQ_length] at hi
  rw [eQ_set (by rw [List.length_set, revQ_length]; omega), eQ_set (by rw [revQ_length]; omega), revQ_at (k := k + 1) hi, revQ_at (k := k) (show k < l.length by omega), revQ_at (k := k) (show jj < l.length by omega)]
  by_cases h1 : i = jj
  · rw [if_pos h1, if_neg (by omega), if_pos (by omega)]
    congr 1; omega
  · rw [if_neg h1]
    by_cases h2 : i = k
    · rw [if_pos h2, if_neg (by omega), if_pos (by omega)]
      congr 1; omega
    · rw [if_neg h2, revQ_at (k := k) hi]
      by_cases h3 : i < k ∨ l.length - k ≤ i
      · rw [if_pos h3, if_pos (by omega)]
      · rw [if_neg h3, if_neg (by omega)]
set_option linter.unusedSimpArgs false in
set_option maxRecDepth 100000 in
set_option maxHeartbeats 4000000 in
theorem reverseP_any (B : Nat) (p : Option Addr) (n c : Nat) (l : List QP) (w : World) (h : w.ownsRow B 34 7 (.slice p n c) n (flatQ l)) (hn : n ≤ 100000000) :
    Calls Try.prog 8 #[.slice p n c] w fun e w' => e = .returned (.tuple #[]) ∧ w'.ownsRow B 34 7 (.slice p n c) n (flatQ l.reverse) ∧ Below B w w' := by
  have HL : Hid (l.length = n) := by show _ = _; have := h.1; rw [flatQ_length] at this; omega
  go_enter Try.func8, Try.ntmps8
  go_wp2
  go_loopw [2, 3] (fun i j wr => ∃ k : Nat, k ≤ n ∧ i = .int .i64 k ∧ j = .int .i64 ((n : Int) - 1 - k) ∧ wr.ownsRow B 34 7 (.slice p n c) n (flatQ (revQ l k)) ∧ Below B w wr) (fun i _ _ => n - (intOf i).toNat)
  case atStart => exact ⟨0, Nat.zero_le _, rfl, val_int (by omega), by rw [revQ_zero]; exact h, Below.refl _ _⟩
  case round =>
    obtain ⟨k, hk, rfl, rfl, hown, hbel⟩ := hrel
    by_cases hlt : 2 * k + 1 < n
    · obtain ⟨jj, HJ⟩ : ∃ jj : Nat, Hid (jj = n - 1 - k) := ⟨_, (rfl : n - 1 - k = n - 1 - k)⟩
      have hJ : (n : Int) - 1 - (k : Int) = (jj : Int) := by rw [HJ.out]; omega
      have hkj : (k : Int) < (jj : Int) := by rw [HJ.out]; omega
      have hjn : jj < n := by rw [HJ.out]; omega
      have hkn : k < n := by omega
      have hji : (jj : Int) < (n : Int) := by omega
      have hki : (k : Int) < (n : Int) := by omega
      obtain ⟨g, hp, hgB, hgl⟩ : ∃ g, p = some ⟨g, 0, none⟩ ∧ B ≤ g ∧ g < wr.heap.size := by
        rcases hown.2 with ⟨_, h0⟩ | ⟨g, cap, cur, hv, hb, hg, _⟩
        · omega
        · simp only [Value.slice.injEq] at hv
          refine ⟨g, hv.1, hb, ?_⟩
          rcases Nat.lt_or_ge g wr.heap.size with h' | h'
          · exact h'
          · rw [Array.getElem?_eq_none h'] at hg; simp at hg
      subst hp
      generalize hT : revQ l k = T at *
      have HT : Hid (T = revQ l k) := hT.symm
      clear hT
      rw [hJ]
      have HC : Hid (∀ i, i < n → wr.cell? ⟨g, i * 7, none⟩ = some (.int .i64 (eQ T i).2.kind) ∧ wr.cell? ⟨g, i * 7 + 1, none⟩ = some (.int .i64 (eQ T i).2.gen) ∧ wr.cell? ⟨g, i * 7 + 2, none⟩ = some (.int .i64 (eQ T i).2.part) ∧ wr.cell? ⟨g, i * 7 + 3, none⟩ = some (.int .i64 (eQ T i).2.seq) ∧ wr.cell? ⟨g, i * 7 + 4, none⟩ = some (.slice (eQ T i).1.pb (eQ T i).1.nb (eQ T i).1.cb) ∧ wr.cell? ⟨g, i * 7 + 5, none⟩ = some (.slice (eQ T i).1.pw (eQ T i).1.nw (eQ T i).1.cw) ∧ wr.cell? ⟨g, i * 7 + 6, none⟩ = some (.slice (eQ T i).1.pr (eQ T i).1.nr (eQ T i).1.cr)) := fun i hi => by
        have htl : T.length = n := by rw [HT.out, revQ_length]; exact HL.out
        obtain ⟨f0, f1, f2, f3, f4, f5, f6⟩ := flatQ_at (l := T) (k := i) (by omega)
        exact ⟨(hown.cellAt (i * 7) (by omega)).trans f0, (hown.cellAt (i * 7 + 1) (by omega)).trans f1, (hown.cellAt (i * 7 + 2) (by omega)).trans f2, (hown.cellAt (i * 7 + 3) (by omega)).trans f3, (hown.cellAt (i * 7 + 4) (by omega)).trans f4, (hown.cellAt (i * 7 + 5) (by omega)).trans f5, (hown.cellAt (i * 7 + 6) (by omega)).trans f6⟩
      go_upto_region 3 with (fail)
      refine wp_region_noPanic ?_
      refine wp_region_held_drew (S := fun _ => True) (by kernel_rfl) trivial (fun hHeld => ?_)
      refine wpAnyH_take (i := 0) (v := ?_) rfl (by kernel_rfl) (by kernel_rfl) (by kernel_rfl) (fun _ _ _ h => h) (Or.inl ⟨by rfl, ?_⟩) hHeld ?_
      rotate_left
      · intro w' hSw; try dsimp only at hSw
        go_simp; try (with_reducible rfl)
      try simp only [Act.put, List.getElem_toArray, List.getElem_cons_succ, List.getElem_cons_zero, List.setIfInBounds_toArray, List.set_cons_zero, List.set_cons_succ]
      refine wpAnyH_take (i := 1) (v := ?_) rfl (by kernel_rfl) (by kernel_rfl) (by kernel_rfl) (fun _ _ _ h => h) (Or.inl ⟨by rfl, ?_⟩) hHeld ?_
      rotate_left
      · intro w' hSw; try dsimp only at hSw
        go_simp; try (with_reducible rfl)
      try simp only [Act.put, List.getElem_toArray, List.getElem_cons_succ, List.getElem_cons_zero, List.setIfInBounds_toArray, List.set_cons_zero, List.set_cons_succ]
      refine wpAnyH_take (i := 2) (v := ?_) rfl (by kernel_rfl) (by kernel_rfl) (by kernel_rfl) (fun _ _ _ h => h) (Or.inl ⟨by rfl, ?_⟩) hHeld ?_
      rotate_left
      · intro w' hSw; try dsimp only at hSw
        go_simp; try (with_reducible rfl)
      try simp only [Act.put, List.getElem_toArray, List.getElem_cons_succ, List.getElem_cons_zero, List.setIfInBounds_toArray, List.set_cons_zero, List.set_cons_succ]
      refine wpAnyH_take (i := 3) (v := ?_) rfl (by kernel_rfl) (by kernel_rfl) (by kernel_rfl) (fun _ _ _ h => h) (Or.inl ⟨by rfl, ?_⟩) hHeld ?_
      rotate_left
      · intro w' hSw; try dsimp only at hSw
        go_simp; try (with_reducible rfl)
      try simp only [Act.put, List.getElem_toArray, List.getElem_cons_succ, List.getElem_cons_zero, List.setIfInBounds_toArray, List.set_cons_zero, List.set_cons_succ]
      refine wpAnyH_take (i := 4) (v := ?_) rfl (by kernel_rfl) (by kernel_rfl) (by kernel_rfl) (fun _ _ _ h => h) (Or.inl ⟨by rfl, ?_⟩) hHeld ?_
      rotate_left
      · intro w' hSw; try dsimp only at hSw
        go_simp; try (with_reducible rfl)
      try simp only [Act.put, List.getElem_toArray, List.getElem_cons_succ, List.getElem_cons_zero, List.setIfInBounds_toArray, List.set_cons_zero, List.set_cons_succ]
      refine wpAnyH_take (i := 5) (v := ?_) rfl (by kernel_rfl) (by kernel_rfl) (by kernel_rfl) (fun _ _ _ h => h) (Or.inl ⟨by rfl, ?_⟩) hHeld ?_
      rotate_left
      · intro w' hSw; try dsimp only at hSw
        go_simp; try (with_reducible rfl)
      try simp only [Act.put, List.getElem_toArray, List.getElem_cons_succ, List.getElem_cons_zero, List.setIfInBounds_toArray, List.set_cons_zero, List.set_cons_succ]
      refine wpAnyH_take (i := 6) (v := ?_) rfl (by kernel_rfl) (by kernel_rfl) (by kernel_rfl) (fun _ _ _ h => h) (Or.inl ⟨by rfl, ?_⟩) hHeld ?_
      rotate_left
      · intro w' hSw; try dsimp only at hSw
        go_simp; try (with_reducible rfl)
      try simp only [Act.put, List.getElem_toArray, List.getElem_cons_succ, List.getElem_cons_zero, List.setIfInBounds_toArray, List.set_cons_zero, List.set_cons_succ]
      refine wpAnyH_take (i := 8) (v := ?_) rfl (by kernel_rfl) (by kernel_rfl) (by kernel_rfl) (fun _ _ _ h => h) (Or.inl ⟨by rfl, ?_⟩) hHeld ?_
      rotate_left
      · intro w' hSw; try dsimp only at hSw
        go_simp; try (with_reducible rfl)
      try simp only [Act.put, List.getElem_toArray, List.getElem_cons_succ, List.getElem_cons_zero, List.setIfInBounds_toArray, List.set_cons_zero, List.set_cons_succ]
      refine wpAnyH_take (i := 9) (v := ?_) rfl (by kernel_rfl) (by kernel_rfl) (by kernel_rfl) (fun _ _ _ h => h) (Or.inl ⟨by rfl, ?_⟩) hHeld ?_
      rotate_left
      · intro w' hSw; try dsimp only at hSw
        go_simp; try (with_reducible rfl)
      try simp only [Act.put, List.getElem_toArray, List.getElem_cons_succ, List.getElem_cons_zero, List.setIfInBounds_toArray, List.set_cons_zero, List.set_cons_succ]
      refine wpAnyH_take (i := 10) (v := ?_) rfl (by kernel_rfl) (by kernel_rfl) (by kernel_rfl) (fun _ _ _ h => h) (Or.inl ⟨by rfl, ?_⟩) hHeld ?_
      rotate_left
      · intro w' hSw; try dsimp only at hSw
        go_simp; try (with_reducible rfl)
      try simp only [Act.put, List.getElem_toArray, List.getElem_cons_succ, List.getElem_cons_zero, List.setIfInBounds_toArray, List.set_cons_zero, List.set_cons_succ]
      refine wpAnyH_ready (rs := [7, 11]) (by kernel_rfl) (by simp) ?_
      refine AllReadyH.cons rfl (fun K hK => ?_) ?_
      · obtain ⟨c0, c1, c2, c3, c4, c5, c6⟩ := HC.out jj (by omega)
        go_simp
        refine hK.out _ _ trivial (fun hHeld => ?_)
        clear hK K
        try simp only [Act.put, List.getElem_toArray, List.getElem_cons_succ, List.getElem_cons_zero, List.setIfInBounds_toArray, List.set_cons_zero, List.set_cons_succ]
        refine wpAnyH_ready (rs := [11]) (by kernel_rfl) (by simp) ?_
        refine AllReadyH.cons rfl (fun K hK => ?_) AllReadyH.nil
        obtain ⟨c0, c1, c2, c3, c4, c5, c6⟩ := HC.out k (by omega)
        go_simp
        refine hK.out _ _ trivial (fun hHeld => ?_)
        clear hK K
        try simp only [Act.put, List.getElem_toArray, List.getElem_cons_succ, List.getElem_cons_zero, List.setIfInBounds_toArray, List.set_cons_zero, List.set_cons_succ]
        refine wpAnyH_take (i := 12) (v := ?_) rfl (by kernel_rfl) (by kernel_rfl) (by kernel_rfl) (fun _ _ _ h => h) (Or.inl ⟨by rfl, ?_⟩) hHeld ?_
        rotate_left
        · intro w' hSw; try dsimp only at hSw
          go_simp; try (with_reducible rfl)
        try simp only [Act.put, List.getElem_toArray, List.getElem_cons_succ, List.getElem_cons_zero, List.setIfInBounds_toArray, List.set_cons_zero, List.set_cons_succ]
        refine wpAnyH_ready (rs := [13]) (by kernel_rfl) (by simp) ?_
        refine AllReadyH.cons rfl (fun K hK => ?_) AllReadyH.nil
        rw [if_pos (by rfl)]
        refine wp_store_page (.tmp 26) (.tmp 21) rfl g k (eQ T jj) rfl rfl (ownsQ_drew hown) hkn ?_
        intro w5 ho5 ht5
        refine hK.out _ _ trivial (fun hHeld => ?_)
        clear hK K
        try simp only [Act.put, List.getElem_toArray, List.getElem_cons_succ, List.getElem_cons_zero, List.setIfInBounds_toArray, List.set_cons_zero, List.set_cons_succ]
        refine wpAnyH_take (i := 14) (v := ?_) rfl (by kernel_rfl) (by kernel_rfl) (by kernel_rfl) (fun _ _ _ h => h) (Or.inl ⟨by rfl, ?_⟩) hHeld ?_
        rotate_left
        · intro w' hSw; try dsimp only at hSw
          go_simp; try (with_reducible rfl)
        try simp only [Act.put, List.getElem_toArray, List.getElem_cons_succ, List.getElem_cons_zero, List.setIfInBounds_toArray, List.set_cons_zero, List.set_cons_succ]
        refine wpAnyH_ready (rs := [15]) (by kernel_rfl) (by simp) ?_
        refine AllReadyH.cons rfl (fun K hK => ?_) AllReadyH.nil
        rw [if_pos (by rfl)]
        refine wp_store_page (.tmp 27) (.tmp 25) rfl g jj (eQ T k) rfl rfl ho5 hjn ?_
        intro w6 ho6 ht6
        refine hK.out _ _ trivial (fun hHeld => ?_)
        clear hK K
        try simp only [Act.put, List.getElem_toArray, List.getElem_cons_succ, List.getElem_cons_zero, List.setIfInBounds_toArray, List.set_cons_zero, List.set_cons_succ]
        refine wpAnyH_done (by kernel_rfl) ?_ _
        refine NoPanic.normal ?_
        go_wp2_with fail
        go_roundw
        case rel =>
          refine ⟨k + 1, by omega, by go_num, val_int (by omega), ?_, ht6.below (ht5.below hbel.drew hgB) hgB⟩
          rw [← swapQ HT.out HL.out (by omega) HJ.out]; exact ho6
        case measure => simp [intOf]; omega
      refine AllReadyH.cons rfl (fun K hK => ?_) AllReadyH.nil
      obtain ⟨c0, c1, c2, c3, c4, c5, c6⟩ := HC.out k (by omega)
      go_simp
      refine hK.out _ _ trivial (fun hHeld => ?_)
      clear hK K
      try simp only [Act.put, List.getElem_toArray, List.getElem_cons_succ, List.getElem_cons_zero, List.setIfInBounds_toArray, List.set_cons_zero, List.set_cons_succ]
      refine wpAnyH_ready (rs := [7]) (by kernel_rfl) (by simp) ?_
      refine AllReadyH.cons rfl (fun K hK => ?_) AllReadyH.nil
      obtain ⟨c0, c1, c2, c3, c4, c5, c6⟩ := HC.out jj (by omega)
      go_simp
      refine hK.out _ _ trivial (fun hHeld => ?_)
      clear hK K
      try simp only [Act.put, List.getElem_toArray, List.getElem_cons_succ, List.getElem_cons_zero, List.setIfInBounds_toArray, List.set_cons_zero, List.set_cons_succ]
      refine wpAnyH_take (i := 12) (v := ?_) rfl (by kernel_rfl) (by kernel_rfl) (by kernel_rfl) (fun _ _ _ h => h) (Or.inl ⟨by rfl, ?_⟩) hHeld ?_
      rotate_left
      · intro w' hSw; try dsimp only at hSw
        go_simp; try (with_reducible rfl)
      try simp only [Act.put, List.getElem_toArray, List.getElem_cons_succ, List.getElem_cons_zero, List.setIfInBounds_toArray, List.set_cons_zero, List.set_cons_succ]
      refine wpAnyH_ready (rs := [13]) (by kernel_rfl) (by simp) ?_
      refine AllReadyH.cons rfl (fun K hK => ?_) AllReadyH.nil
      rw [if_pos (by rfl)]
      refine wp_store_page (.tmp 26) (.tmp 21) rfl g k (eQ T jj) rfl rfl (ownsQ_drew hown) hkn ?_
      intro w5 ho5 ht5
      refine hK.out _ _ trivial (fun hHeld => ?_)
      clear hK K
      try simp only [Act.put, List.getElem_toArray, List.getElem_cons_succ, List.getElem_cons_zero, List.setIfInBounds_toArray, List.set_cons_zero, List.set_cons_succ]
      refine wpAnyH_take (i := 14) (v := ?_) rfl (by kernel_rfl) (by kernel_rfl) (by kernel_rfl) (fun _ _ _ h => h) (Or.inl ⟨by rfl, ?_⟩) hHeld ?_
      rotate_left
      · intro w' hSw; try dsimp only at hSw
        go_simp; try (with_reducible rfl)
      try simp only [Act.put, List.getElem_toArray, List.getElem_cons_succ, List.getElem_cons_zero, List.setIfInBounds_toArray, List.set_cons_zero, List.set_cons_succ]
      refine wpAnyH_ready (rs := [15]) (by kernel_rfl) (by simp) ?_
      refine AllReadyH.cons rfl (fun K hK => ?_) AllReadyH.nil
      rw [if_pos (by rfl)]
      refine wp_store_page (.tmp 27) (.tmp 25) rfl g jj (eQ T k) rfl rfl ho5 hjn ?_
      intro w6 ho6 ht6
      refine hK.out _ _ trivial (fun hHeld => ?_)
      clear hK K
      try simp only [Act.put, List.getElem_toArray, List.getElem_cons_succ, List.getElem_cons_zero, List.setIfInBounds_toArray, List.set_cons_zero, List.set_cons_succ]
      refine wpAnyH_done (by kernel_rfl) ?_ _
      refine NoPanic.normal ?_
      go_wp2_with fail
      go_roundw
      case rel =>
        refine ⟨k + 1, by omega, by go_num, val_int (by omega), ?_, ht6.below (ht5.below hbel.drew hgB) hgB⟩
        rw [← swapQ HT.out HL.out (by omega) HJ.out]; exact ho6
      case measure => simp [intOf]; omega
    · have hge : ¬ (k : Int) < (n : Int) - 1 - (k : Int) := by omega
      go_wp2
      go_end0
      rw [revQ_end (by have := HL.out; omega)] at hown
      exact ⟨rfl, hown, hbel⟩
end Go.Proofs.Ytpikaagdiafieab
