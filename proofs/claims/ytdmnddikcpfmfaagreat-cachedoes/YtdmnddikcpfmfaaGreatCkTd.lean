/-
  One call of the law with both caches: the kinds with a call of each.
-/
import Derived.Test.YtdmnddikcpfmfaaGreatCkSort
namespace Go.Proofs.YtdmnddikcpfmfaaGreat
open Go.RowKit Go.Shelf
/-- What lies below a base is kept, and calls anywhere. -/
structure BelC (B0 : Nat) (w w' : World) : Prop where
  b : Below B0 w w'
  k : ∀ g cs, Blk w g 42 cs → Blk w' g 42 cs
theorem BelC.of {B0 : Nat} {w w' : World} (h : Below w.heap.size w w') (hl : B0 ≤ w.heap.size) : BelC B0 w w' := ⟨h.mono hl, fun _ _ hg => hg.kept h⟩
theorem BelC.trans {B0 : Nat} {a b c : World} (h : BelC B0 a b) (k : BelC B0 b c) : BelC B0 a c := ⟨h.b.trans k.b, fun g cs hg => k.k g cs (h.k g cs hg)⟩
theorem Twin.bothC {B0 : Nat} {w w1 w2 : World} {tw : Nat} {c c1 : CS} {q q1 : QS} {N M : Nat} (h : Twin B0 w tw c q N) (A : CAfter w w1 c c1) (E : QAfter w1 w2 q q1) (hP : q1.P = c1.P) (hr : DRel c1.ds q1.t) (hp : PI c1.P c1.ds M) : Twin B0 w2 tw c1 q1 M ∧ BelC B0 w w2 := by
  obtain ⟨h1, h2⟩ := h.both A E hP hr hp
  refine ⟨h1, h2, fun g cs hg => ?_⟩
  have hq1 := h.Q.keepC h.C A.keep
  have g1 := A.blk h.C hg (by decide) (by decide) (by decide) (by decide)
  exact g1.keep E.keep (hq1.apart g1 (by decide) (by decide) (by decide) (by decide) (by decide) (by decide))
/-- Both are what they were to be. -/
def DoesOk (B0 tw : Nat) (c : CS) (q : QS) (N : Nat) (w : World) (e : Ending) (w' : World) : Prop :=
  e = .returned (.bool true) ∧ ∃ c' q', Twin B0 w' tw c' q' (N + 1) ∧ BelC B0 w w' ∧ c'.d = c.d ∧ q'.g = q.g
theorem InI.lowB {w w' : World} {B : Nat} {p : Option Addr} {n c : Nat} {xs : List Int} (h : InI w p n c xs) (hl : ∀ a, p = some a → 0 < n → a.block < B) (hb : Below B w w') : InI w' p n c xs :=
  ⟨h.len, h.cap, h.max, h.room, fun h0 => by
    obtain ⟨b, o, hp, hlt, hc⟩ := h.at' h0
    have hbl := hl _ hp h0
    exact ⟨b, o, hp, Nat.lt_of_lt_of_le hlt hb.size, fun i hi => (hb.cell (p := ⟨b, o + i, none⟩) hbl).trans (hc i hi)⟩, h.nil⟩
set_option linter.unusedSimpArgs false in
set_option linter.unusedVariables false in
set_option maxRecDepth 100000 in
set_option maxHeartbeats 4000000 in
theorem does_pin {B0 : Nat} {w : World} {tw : Nat} {c : CS} {q : QS} {N : Nat} (T : Twin B0 w tw c q N) (hN : N ≤ 900) (i : Int) (f : Nat) (cl : Int) (p : Option Addr) (n cc : Nat) (cut : Int) : Calls Tryz.prog 9 #[.pointer (some ⟨tw, 0, none⟩), .agg #[.int .i64 2, .int .i64 i, .int .u8 (f : Int), .int .i64 cl, .slice p n cc, .int .i64 cut]] w (DoesOk B0 tw c q N w) := by
  have hb0 := below_alloc w (.cells #[.int .i64 2, .int .i64 i, .int .u8 (f : Int), .int .i64 cl, .slice p n cc, .int .i64 cut] 42)
  have g3 := Blk.new' w 42 #[.int .i64 2, .int .i64 i, .int .u8 (f : Int), .int .i64 cl, .slice p n cc, .int .i64 cut]
  have T0 := T.below hb0.drew
  have tb := T0.tb
  have g3d := g3.drew
  have k0 := g3.cell' (i := 0) rfl
  have k2 := g3.cell' (i := 2) rfl
  have hbB := (hb0.drew).mono T.le
  obtain ⟨E, P1, D1, hpi, h1, h2⟩ := pin_two T0 hN i
  go_enter Tryz.func9, Tryz.ntmps9
  go_upto_region 12 with fail
  generalize w.alloc (.cells #[.int .i64 2, .int .i64 i, .int .u8 (f : Int), .int .i64 cl, .slice p n cc, .int .i64 cut] 42) = V at *
  refine wp_region_noPanic ?_
  refine wp_region_held_drew (S := (fun X => Blk X tw 39 [.pointer (some ⟨c.d, 0, none⟩), .pointer (some ⟨c.c, 0, none⟩), .pointer (some ⟨q.g, 0, none⟩), .pointer (some ⟨q.q, 0, none⟩)] ∧ Blk X w.heap.size 42 [.int .i64 2, .int .i64 i, .int .u8 (f : Int), .int .i64 cl, .slice p n cc, .int .i64 cut])) (by kernel_rfl) ⟨tb, g3d⟩ (fun hHeld => ?_)
  refine wpAnyH_take (i := 0) (v := ?_) rfl (by kernel_rfl) (by kernel_rfl) (by kernel_rfl) (fun _ _ _ h => h) (Or.inl ⟨by kernel_rfl, ?_⟩) hHeld ?_
  rotate_left
  · intro w' hSw; try dsimp only at hSw
    have d0 := hSw.1.cell' (i := 0) rfl
    have d1 := hSw.1.cell' (i := 1) rfl
    have d2 := hSw.1.cell' (i := 2) rfl
    have d3 := hSw.1.cell' (i := 3) rfl
    have u0 := hSw.2.cell' (i := 0) rfl
    have u1 := hSw.2.cell' (i := 1) rfl
    have u2 := hSw.2.cell' (i := 2) rfl
    have u3 := hSw.2.cell' (i := 3) rfl
    have u4 := hSw.2.cell' (i := 4) rfl
    have u5 := hSw.2.cell' (i := 5) rfl
    go_simp; try (with_reducible rfl)
  try simp only [Act.put, List.getElem_toArray, List.getElem_cons_succ, List.getElem_cons_zero, List.setIfInBounds_toArray, List.set_cons_zero, List.set_cons_succ]
  refine wpAnyH_take (i := 1) (v := ?_) rfl (by kernel_rfl) (by kernel_rfl) (by kernel_rfl) (fun _ _ _ h => h) (Or.inl ⟨by kernel_rfl, ?_⟩) hHeld ?_
  rotate_left
  · intro w' hSw; try dsimp only at hSw
    have d0 := hSw.1.cell' (i := 0) rfl
    have d1 := hSw.1.cell' (i := 1) rfl
    have d2 := hSw.1.cell' (i := 2) rfl
    have d3 := hSw.1.cell' (i := 3) rfl
    have u0 := hSw.2.cell' (i := 0) rfl
    have u1 := hSw.2.cell' (i := 1) rfl
    have u2 := hSw.2.cell' (i := 2) rfl
    have u3 := hSw.2.cell' (i := 3) rfl
    have u4 := hSw.2.cell' (i := 4) rfl
    have u5 := hSw.2.cell' (i := 5) rfl
    go_simp; try (with_reducible rfl)
  try simp only [Act.put, List.getElem_toArray, List.getElem_cons_succ, List.getElem_cons_zero, List.setIfInBounds_toArray, List.set_cons_zero, List.set_cons_succ]
  refine wpAnyH_take (i := 2) (v := ?_) rfl (by kernel_rfl) (by kernel_rfl) (by kernel_rfl) (fun _ _ _ h => h) (Or.inl ⟨by kernel_rfl, ?_⟩) hHeld ?_
  rotate_left
  · intro w' hSw; try dsimp only at hSw
    have d0 := hSw.1.cell' (i := 0) rfl
    have d1 := hSw.1.cell' (i := 1) rfl
    have d2 := hSw.1.cell' (i := 2) rfl
    have d3 := hSw.1.cell' (i := 3) rfl
    have u0 := hSw.2.cell' (i := 0) rfl
    have u1 := hSw.2.cell' (i := 1) rfl
    have u2 := hSw.2.cell' (i := 2) rfl
    have u3 := hSw.2.cell' (i := 3) rfl
    have u4 := hSw.2.cell' (i := 4) rfl
    have u5 := hSw.2.cell' (i := 5) rfl
    go_simp; try (with_reducible rfl)
  try simp only [Act.put, List.getElem_toArray, List.getElem_cons_succ, List.getElem_cons_zero, List.setIfInBounds_toArray, List.set_cons_zero, List.set_cons_succ]
  refine wpAnyH_take (i := 3) (v := ?_) rfl (by kernel_rfl) (by kernel_rfl) (by kernel_rfl) (fun _ _ _ h => h) (Or.inl ⟨by kernel_rfl, ?_⟩) hHeld ?_
  rotate_left
  · intro w' hSw; try dsimp only at hSw
    have d0 := hSw.1.cell' (i := 0) rfl
    have d1 := hSw.1.cell' (i := 1) rfl
    have d2 := hSw.1.cell' (i := 2) rfl
    have d3 := hSw.1.cell' (i := 3) rfl
    have u0 := hSw.2.cell' (i := 0) rfl
    have u1 := hSw.2.cell' (i := 1) rfl
    have u2 := hSw.2.cell' (i := 2) rfl
    have u3 := hSw.2.cell' (i := 3) rfl
    have u4 := hSw.2.cell' (i := 4) rfl
    have u5 := hSw.2.cell' (i := 5) rfl
    go_simp; try (with_reducible rfl)
  try simp only [Act.put, List.getElem_toArray, List.getElem_cons_succ, List.getElem_cons_zero, List.setIfInBounds_toArray, List.set_cons_zero, List.set_cons_succ]
  refine wpAnyH_take (i := 4) (v := ?_) rfl (by kernel_rfl) (by kernel_rfl) (by kernel_rfl) (fun _ _ _ h => h) (Or.inl ⟨by kernel_rfl, ?_⟩) hHeld ?_
  rotate_left
  · intro w' hSw; try dsimp only at hSw
    have d0 := hSw.1.cell' (i := 0) rfl
    have d1 := hSw.1.cell' (i := 1) rfl
    have d2 := hSw.1.cell' (i := 2) rfl
    have d3 := hSw.1.cell' (i := 3) rfl
    have u0 := hSw.2.cell' (i := 0) rfl
    have u1 := hSw.2.cell' (i := 1) rfl
    have u2 := hSw.2.cell' (i := 2) rfl
    have u3 := hSw.2.cell' (i := 3) rfl
    have u4 := hSw.2.cell' (i := 4) rfl
    have u5 := hSw.2.cell' (i := 5) rfl
    go_simp; try (with_reducible rfl)
  try simp only [Act.put, List.getElem_toArray, List.getElem_cons_succ, List.getElem_cons_zero, List.setIfInBounds_toArray, List.set_cons_zero, List.set_cons_succ]
  refine wpAnyH_take (i := 5) (v := ?_) rfl (by kernel_rfl) (by kernel_rfl) (by kernel_rfl) (fun _ _ _ h => h) (Or.inl ⟨by kernel_rfl, ?_⟩) hHeld ?_
  rotate_left
  · intro w' hSw; try dsimp only at hSw
    have d0 := hSw.1.cell' (i := 0) rfl
    have d1 := hSw.1.cell' (i := 1) rfl
    have d2 := hSw.1.cell' (i := 2) rfl
    have d3 := hSw.1.cell' (i := 3) rfl
    have u0 := hSw.2.cell' (i := 0) rfl
    have u1 := hSw.2.cell' (i := 1) rfl
    have u2 := hSw.2.cell' (i := 2) rfl
    have u3 := hSw.2.cell' (i := 3) rfl
    have u4 := hSw.2.cell' (i := 4) rfl
    have u5 := hSw.2.cell' (i := 5) rfl
    go_simp; try (with_reducible rfl)
  try simp only [Act.put, List.getElem_toArray, List.getElem_cons_succ, List.getElem_cons_zero, List.setIfInBounds_toArray, List.set_cons_zero, List.set_cons_succ]
  refine wpAnyH_take (i := 7) (v := ?_) rfl (by kernel_rfl) (by kernel_rfl) (by kernel_rfl) (fun _ _ _ h => h) (Or.inl ⟨by kernel_rfl, ?_⟩) hHeld ?_
  rotate_left
  · intro w' hSw; try dsimp only at hSw
    have d0 := hSw.1.cell' (i := 0) rfl
    have d1 := hSw.1.cell' (i := 1) rfl
    have d2 := hSw.1.cell' (i := 2) rfl
    have d3 := hSw.1.cell' (i := 3) rfl
    have u0 := hSw.2.cell' (i := 0) rfl
    have u1 := hSw.2.cell' (i := 1) rfl
    have u2 := hSw.2.cell' (i := 2) rfl
    have u3 := hSw.2.cell' (i := 3) rfl
    have u4 := hSw.2.cell' (i := 4) rfl
    have u5 := hSw.2.cell' (i := 5) rfl
    go_simp; try (with_reducible rfl)
  try simp only [Act.put, List.getElem_toArray, List.getElem_cons_succ, List.getElem_cons_zero, List.setIfInBounds_toArray, List.set_cons_zero, List.set_cons_succ]
  refine wpAnyH_take (i := 8) (v := ?_) rfl (by kernel_rfl) (by kernel_rfl) (by kernel_rfl) (fun _ _ _ h => h) (Or.inl ⟨by kernel_rfl, ?_⟩) hHeld ?_
  rotate_left
  · intro w' hSw; try dsimp only at hSw
    have d0 := hSw.1.cell' (i := 0) rfl
    have d1 := hSw.1.cell' (i := 1) rfl
    have d2 := hSw.1.cell' (i := 2) rfl
    have d3 := hSw.1.cell' (i := 3) rfl
    have u0 := hSw.2.cell' (i := 0) rfl
    have u1 := hSw.2.cell' (i := 1) rfl
    have u2 := hSw.2.cell' (i := 2) rfl
    have u3 := hSw.2.cell' (i := 3) rfl
    have u4 := hSw.2.cell' (i := 4) rfl
    have u5 := hSw.2.cell' (i := 5) rfl
    go_simp; try (with_reducible rfl)
  try simp only [Act.put, List.getElem_toArray, List.getElem_cons_succ, List.getElem_cons_zero, List.setIfInBounds_toArray, List.set_cons_zero, List.set_cons_succ]
  refine wpAnyH_take (i := 9) (v := ?_) rfl (by kernel_rfl) (by kernel_rfl) (by kernel_rfl) (fun _ _ _ h => h) (Or.inl ⟨by kernel_rfl, ?_⟩) hHeld ?_
  rotate_left
  · intro w' hSw; try dsimp only at hSw
    have d0 := hSw.1.cell' (i := 0) rfl
    have d1 := hSw.1.cell' (i := 1) rfl
    have d2 := hSw.1.cell' (i := 2) rfl
    have d3 := hSw.1.cell' (i := 3) rfl
    have u0 := hSw.2.cell' (i := 0) rfl
    have u1 := hSw.2.cell' (i := 1) rfl
    have u2 := hSw.2.cell' (i := 2) rfl
    have u3 := hSw.2.cell' (i := 3) rfl
    have u4 := hSw.2.cell' (i := 4) rfl
    have u5 := hSw.2.cell' (i := 5) rfl
    go_simp; try (with_reducible rfl)
  try simp only [Act.put, List.getElem_toArray, List.getElem_cons_succ, List.getElem_cons_zero, List.setIfInBounds_toArray, List.set_cons_zero, List.set_cons_succ]
  refine wpAnyH_take (i := 10) (v := ?_) rfl (by kernel_rfl) (by kernel_rfl) (by kernel_rfl) (fun _ _ _ h => h) (Or.inl ⟨by kernel_rfl, ?_⟩) hHeld ?_
  rotate_left
  · intro w' hSw; try dsimp only at hSw
    have d0 := hSw.1.cell' (i := 0) rfl
    have d1 := hSw.1.cell' (i := 1) rfl
    have d2 := hSw.1.cell' (i := 2) rfl
    have d3 := hSw.1.cell' (i := 3) rfl
    have u0 := hSw.2.cell' (i := 0) rfl
    have u1 := hSw.2.cell' (i := 1) rfl
    have u2 := hSw.2.cell' (i := 2) rfl
    have u3 := hSw.2.cell' (i := 3) rfl
    have u4 := hSw.2.cell' (i := 4) rfl
    have u5 := hSw.2.cell' (i := 5) rfl
    go_simp; try (with_reducible rfl)
  try simp only [Act.put, List.getElem_toArray, List.getElem_cons_succ, List.getElem_cons_zero, List.setIfInBounds_toArray, List.set_cons_zero, List.set_cons_succ]
  refine wpAnyH_take (i := 11) (v := ?_) rfl (by kernel_rfl) (by kernel_rfl) (by kernel_rfl) (fun _ _ _ h => h) (Or.inl ⟨by kernel_rfl, ?_⟩) hHeld ?_
  rotate_left
  · intro w' hSw; try dsimp only at hSw
    have d0 := hSw.1.cell' (i := 0) rfl
    have d1 := hSw.1.cell' (i := 1) rfl
    have d2 := hSw.1.cell' (i := 2) rfl
    have d3 := hSw.1.cell' (i := 3) rfl
    have u0 := hSw.2.cell' (i := 0) rfl
    have u1 := hSw.2.cell' (i := 1) rfl
    have u2 := hSw.2.cell' (i := 2) rfl
    have u3 := hSw.2.cell' (i := 3) rfl
    have u4 := hSw.2.cell' (i := 4) rfl
    have u5 := hSw.2.cell' (i := 5) rfl
    go_simp; try (with_reducible rfl)
  try simp only [Act.put, List.getElem_toArray, List.getElem_cons_succ, List.getElem_cons_zero, List.setIfInBounds_toArray, List.set_cons_zero, List.set_cons_succ]
  refine wpAnyH_take (i := 12) (v := ?_) rfl (by kernel_rfl) (by kernel_rfl) (by kernel_rfl) (fun _ _ _ h => h) (Or.inl ⟨by kernel_rfl, ?_⟩) hHeld ?_
  rotate_left
  · intro w' hSw; try dsimp only at hSw
    have d0 := hSw.1.cell' (i := 0) rfl
    have d1 := hSw.1.cell' (i := 1) rfl
    have d2 := hSw.1.cell' (i := 2) rfl
    have d3 := hSw.1.cell' (i := 3) rfl
    have u0 := hSw.2.cell' (i := 0) rfl
    have u1 := hSw.2.cell' (i := 1) rfl
    have u2 := hSw.2.cell' (i := 2) rfl
    have u3 := hSw.2.cell' (i := 3) rfl
    have u4 := hSw.2.cell' (i := 4) rfl
    have u5 := hSw.2.cell' (i := 5) rfl
    go_simp; try (with_reducible rfl)
  try simp only [Act.put, List.getElem_toArray, List.getElem_cons_succ, List.getElem_cons_zero, List.setIfInBounds_toArray, List.set_cons_zero, List.set_cons_succ]
  refine wpAnyH_ready (rs := [6]) (by kernel_rfl) (by simp) ?_
  refine AllReadyH.cons rfl (fun K hK => ?_) AllReadyH.nil
  go_simp
  refine h1.mono ?_
  rintro e w1 ⟨rfl, c1, A, hP1, hD1⟩
  have Q1 := T0.Q.keepC T0.C A.keep
  refine hK.out _ _ ⟨A.blk T0.C hHeld.1 (by decide) (by decide) (by decide) (by decide), A.blk T0.C hHeld.2 (by decide) (by decide) (by decide) (by decide)⟩ (fun hHeld => ?_)
  clear hK K
  try simp only [Act.put, List.getElem_toArray, List.getElem_cons_succ, List.getElem_cons_zero, List.setIfInBounds_toArray, List.set_cons_zero, List.set_cons_succ]
  refine wpAnyH_ready (rs := [13]) (by kernel_rfl) (by simp) ?_
  refine AllReadyH.cons rfl (fun K hK => ?_) AllReadyH.nil
  go_simp
  refine (h2 _ Q1).mono ?_
  rintro e w2 ⟨rfl, q1, E2, hP2, hR2⟩
  refine hK.out _ _ ⟨hHeld.1.keep E2.keep (Q1.apart hHeld.1 (by decide) (by decide) (by decide) (by decide) (by decide) (by decide)), hHeld.2.keep E2.keep (Q1.apart hHeld.2 (by decide) (by decide) (by decide) (by decide) (by decide) (by decide))⟩ (fun hHeld => ?_)
  clear hK K
  try simp only [Act.put, List.getElem_toArray, List.getElem_cons_succ, List.getElem_cons_zero, List.setIfInBounds_toArray, List.set_cons_zero, List.set_cons_succ]
  refine wpAnyH_take (i := 14) (v := ?_) rfl (by kernel_rfl) (by kernel_rfl) (by kernel_rfl) (fun _ _ _ h => h) (Or.inl ⟨by kernel_rfl, ?_⟩) hHeld ?_
  rotate_left
  · intro w' hSw; try dsimp only at hSw
    go_simp; try (with_reducible rfl)
  try simp only [Act.put, List.getElem_toArray, List.getElem_cons_succ, List.getElem_cons_zero, List.setIfInBounds_toArray, List.set_cons_zero, List.set_cons_succ]
  refine wpAnyH_take (i := 15) (v := ?_) rfl (by kernel_rfl) (by kernel_rfl) (by kernel_rfl) (fun _ _ _ h => h) (Or.inl ⟨by kernel_rfl, ?_⟩) hHeld ?_
  rotate_left
  · intro w' hSw; try dsimp only at hSw
    go_simp; try (with_reducible rfl)
  try simp only [Act.put, List.getElem_toArray, List.getElem_cons_succ, List.getElem_cons_zero, List.setIfInBounds_toArray, List.set_cons_zero, List.set_cons_succ]
  refine wpAnyH_done (by kernel_rfl) ?_ _
  refine NoPanic.normal ?_
  clear hHeld
  go_wp2
  go_ret
  obtain ⟨T2, hb2⟩ := T0.bothC (M := N + 1) A E2 (by rw [hP2, hP1]) (by rw [hD1]; exact hR2) (by rw [hP1, hD1]; exact hpi)
  exact ⟨ret_bool (by simp), c1, q1, T2, (BelC.of hb0.drew T.le).trans hb2, A.d, E2.g⟩
set_option linter.unusedSimpArgs false in
set_option linter.unusedVariables false in
set_option maxRecDepth 100000 in
set_option maxHeartbeats 4000000 in
theorem does_unpin {B0 : Nat} {w : World} {tw : Nat} {c : CS} {q : QS} {N : Nat} (T : Twin B0 w tw c q N) (hN : N ≤ 900) (i : Int) (f : Nat) (cl : Int) (p : Option Addr) (n cc : Nat) (cut : Int) : Calls Tryz.prog 9 #[.pointer (some ⟨tw, 0, none⟩), .agg #[.int .i64 3, .int .i64 i, .int .u8 (f : Int), .int .i64 cl, .slice p n cc, .int .i64 cut]] w (DoesOk B0 tw c q N w) := by
  have hb0 := below_alloc w (.cells #[.int .i64 3, .int .i64 i, .int .u8 (f : Int), .int .i64 cl, .slice p n cc, .int .i64 cut] 42)
  have g3 := Blk.new' w 42 #[.int .i64 3, .int .i64 i, .int .u8 (f : Int), .int .i64 cl, .slice p n cc, .int .i64 cut]
  have T0 := T.below hb0.drew
  have tb := T0.tb
  have g3d := g3.drew
  have k0 := g3.cell' (i := 0) rfl
  have k2 := g3.cell' (i := 2) rfl
  have hbB := (hb0.drew).mono T.le
  obtain ⟨E, P1, D1, hpi, h1, h2⟩ := unpin_two T0 hN i
  go_enter Tryz.func9, Tryz.ntmps9
  go_upto_region 14 with fail
  generalize w.alloc (.cells #[.int .i64 3, .int .i64 i, .int .u8 (f : Int), .int .i64 cl, .slice p n cc, .int .i64 cut] 42) = V at *
  refine wp_region_noPanic ?_
  refine wp_region_held_drew (S := (fun X => Blk X tw 39 [.pointer (some ⟨c.d, 0, none⟩), .pointer (some ⟨c.c, 0, none⟩), .pointer (some ⟨q.g, 0, none⟩), .pointer (some ⟨q.q, 0, none⟩)] ∧ Blk X w.heap.size 42 [.int .i64 3, .int .i64 i, .int .u8 (f : Int), .int .i64 cl, .slice p n cc, .int .i64 cut])) (by kernel_rfl) ⟨tb, g3d⟩ (fun hHeld => ?_)
  refine wpAnyH_take (i := 0) (v := ?_) rfl (by kernel_rfl) (by kernel_rfl) (by kernel_rfl) (fun _ _ _ h => h) (Or.inl ⟨by kernel_rfl, ?_⟩) hHeld ?_
  rotate_left
  · intro w' hSw; try dsimp only at hSw
    have d0 := hSw.1.cell' (i := 0) rfl
    have d1 := hSw.1.cell' (i := 1) rfl
    have d2 := hSw.1.cell' (i := 2) rfl
    have d3 := hSw.1.cell' (i := 3) rfl
    have u0 := hSw.2.cell' (i := 0) rfl
    have u1 := hSw.2.cell' (i := 1) rfl
    have u2 := hSw.2.cell' (i := 2) rfl
    have u3 := hSw.2.cell' (i := 3) rfl
    have u4 := hSw.2.cell' (i := 4) rfl
    have u5 := hSw.2.cell' (i := 5) rfl
    go_simp; try (with_reducible rfl)
  try simp only [Act.put, List.getElem_toArray, List.getElem_cons_succ, List.getElem_cons_zero, List.setIfInBounds_toArray, List.set_cons_zero, List.set_cons_succ]
  refine wpAnyH_take (i := 1) (v := ?_) rfl (by kernel_rfl) (by kernel_rfl) (by kernel_rfl) (fun _ _ _ h => h) (Or.inl ⟨by kernel_rfl, ?_⟩) hHeld ?_
  rotate_left
  · intro w' hSw; try dsimp only at hSw
    have d0 := hSw.1.cell' (i := 0) rfl
    have d1 := hSw.1.cell' (i := 1) rfl
    have d2 := hSw.1.cell' (i := 2) rfl
    have d3 := hSw.1.cell' (i := 3) rfl
    have u0 := hSw.2.cell' (i := 0) rfl
    have u1 := hSw.2.cell' (i := 1) rfl
    have u2 := hSw.2.cell' (i := 2) rfl
    have u3 := hSw.2.cell' (i := 3) rfl
    have u4 := hSw.2.cell' (i := 4) rfl
    have u5 := hSw.2.cell' (i := 5) rfl
    go_simp; try (with_reducible rfl)
  try simp only [Act.put, List.getElem_toArray, List.getElem_cons_succ, List.getElem_cons_zero, List.setIfInBounds_toArray, List.set_cons_zero, List.set_cons_succ]
  refine wpAnyH_take (i := 2) (v := ?_) rfl (by kernel_rfl) (by kernel_rfl) (by kernel_rfl) (fun _ _ _ h => h) (Or.inl ⟨by kernel_rfl, ?_⟩) hHeld ?_
  rotate_left
  · intro w' hSw; try dsimp only at hSw
    have d0 := hSw.1.cell' (i := 0) rfl
    have d1 := hSw.1.cell' (i := 1) rfl
    have d2 := hSw.1.cell' (i := 2) rfl
    have d3 := hSw.1.cell' (i := 3) rfl
    have u0 := hSw.2.cell' (i := 0) rfl
    have u1 := hSw.2.cell' (i := 1) rfl
    have u2 := hSw.2.cell' (i := 2) rfl
    have u3 := hSw.2.cell' (i := 3) rfl
    have u4 := hSw.2.cell' (i := 4) rfl
    have u5 := hSw.2.cell' (i := 5) rfl
    go_simp; try (with_reducible rfl)
  try simp only [Act.put, List.getElem_toArray, List.getElem_cons_succ, List.getElem_cons_zero, List.setIfInBounds_toArray, List.set_cons_zero, List.set_cons_succ]
  refine wpAnyH_take (i := 3) (v := ?_) rfl (by kernel_rfl) (by kernel_rfl) (by kernel_rfl) (fun _ _ _ h => h) (Or.inl ⟨by kernel_rfl, ?_⟩) hHeld ?_
  rotate_left
  · intro w' hSw; try dsimp only at hSw
    have d0 := hSw.1.cell' (i := 0) rfl
    have d1 := hSw.1.cell' (i := 1) rfl
    have d2 := hSw.1.cell' (i := 2) rfl
    have d3 := hSw.1.cell' (i := 3) rfl
    have u0 := hSw.2.cell' (i := 0) rfl
    have u1 := hSw.2.cell' (i := 1) rfl
    have u2 := hSw.2.cell' (i := 2) rfl
    have u3 := hSw.2.cell' (i := 3) rfl
    have u4 := hSw.2.cell' (i := 4) rfl
    have u5 := hSw.2.cell' (i := 5) rfl
    go_simp; try (with_reducible rfl)
  try simp only [Act.put, List.getElem_toArray, List.getElem_cons_succ, List.getElem_cons_zero, List.setIfInBounds_toArray, List.set_cons_zero, List.set_cons_succ]
  refine wpAnyH_take (i := 4) (v := ?_) rfl (by kernel_rfl) (by kernel_rfl) (by kernel_rfl) (fun _ _ _ h => h) (Or.inl ⟨by kernel_rfl, ?_⟩) hHeld ?_
  rotate_left
  · intro w' hSw; try dsimp only at hSw
    have d0 := hSw.1.cell' (i := 0) rfl
    have d1 := hSw.1.cell' (i := 1) rfl
    have d2 := hSw.1.cell' (i := 2) rfl
    have d3 := hSw.1.cell' (i := 3) rfl
    have u0 := hSw.2.cell' (i := 0) rfl
    have u1 := hSw.2.cell' (i := 1) rfl
    have u2 := hSw.2.cell' (i := 2) rfl
    have u3 := hSw.2.cell' (i := 3) rfl
    have u4 := hSw.2.cell' (i := 4) rfl
    have u5 := hSw.2.cell' (i := 5) rfl
    go_simp; try (with_reducible rfl)
  try simp only [Act.put, List.getElem_toArray, List.getElem_cons_succ, List.getElem_cons_zero, List.setIfInBounds_toArray, List.set_cons_zero, List.set_cons_succ]
  refine wpAnyH_take (i := 5) (v := ?_) rfl (by kernel_rfl) (by kernel_rfl) (by kernel_rfl) (fun _ _ _ h => h) (Or.inl ⟨by kernel_rfl, ?_⟩) hHeld ?_
  rotate_left
  · intro w' hSw; try dsimp only at hSw
    have d0 := hSw.1.cell' (i := 0) rfl
    have d1 := hSw.1.cell' (i := 1) rfl
    have d2 := hSw.1.cell' (i := 2) rfl
    have d3 := hSw.1.cell' (i := 3) rfl
    have u0 := hSw.2.cell' (i := 0) rfl
    have u1 := hSw.2.cell' (i := 1) rfl
    have u2 := hSw.2.cell' (i := 2) rfl
    have u3 := hSw.2.cell' (i := 3) rfl
    have u4 := hSw.2.cell' (i := 4) rfl
    have u5 := hSw.2.cell' (i := 5) rfl
    go_simp; try (with_reducible rfl)
  try simp only [Act.put, List.getElem_toArray, List.getElem_cons_succ, List.getElem_cons_zero, List.setIfInBounds_toArray, List.set_cons_zero, List.set_cons_succ]
  refine wpAnyH_take (i := 7) (v := ?_) rfl (by kernel_rfl) (by kernel_rfl) (by kernel_rfl) (fun _ _ _ h => h) (Or.inl ⟨by kernel_rfl, ?_⟩) hHeld ?_
  rotate_left
  · intro w' hSw; try dsimp only at hSw
    have d0 := hSw.1.cell' (i := 0) rfl
    have d1 := hSw.1.cell' (i := 1) rfl
    have d2 := hSw.1.cell' (i := 2) rfl
    have d3 := hSw.1.cell' (i := 3) rfl
    have u0 := hSw.2.cell' (i := 0) rfl
    have u1 := hSw.2.cell' (i := 1) rfl
    have u2 := hSw.2.cell' (i := 2) rfl
    have u3 := hSw.2.cell' (i := 3) rfl
    have u4 := hSw.2.cell' (i := 4) rfl
    have u5 := hSw.2.cell' (i := 5) rfl
    go_simp; try (with_reducible rfl)
  try simp only [Act.put, List.getElem_toArray, List.getElem_cons_succ, List.getElem_cons_zero, List.setIfInBounds_toArray, List.set_cons_zero, List.set_cons_succ]
  refine wpAnyH_take (i := 8) (v := ?_) rfl (by kernel_rfl) (by kernel_rfl) (by kernel_rfl) (fun _ _ _ h => h) (Or.inl ⟨by kernel_rfl, ?_⟩) hHeld ?_
  rotate_left
  · intro w' hSw; try dsimp only at hSw
    have d0 := hSw.1.cell' (i := 0) rfl
    have d1 := hSw.1.cell' (i := 1) rfl
    have d2 := hSw.1.cell' (i := 2) rfl
    have d3 := hSw.1.cell' (i := 3) rfl
    have u0 := hSw.2.cell' (i := 0) rfl
    have u1 := hSw.2.cell' (i := 1) rfl
    have u2 := hSw.2.cell' (i := 2) rfl
    have u3 := hSw.2.cell' (i := 3) rfl
    have u4 := hSw.2.cell' (i := 4) rfl
    have u5 := hSw.2.cell' (i := 5) rfl
    go_simp; try (with_reducible rfl)
  try simp only [Act.put, List.getElem_toArray, List.getElem_cons_succ, List.getElem_cons_zero, List.setIfInBounds_toArray, List.set_cons_zero, List.set_cons_succ]
  refine wpAnyH_take (i := 9) (v := ?_) rfl (by kernel_rfl) (by kernel_rfl) (by kernel_rfl) (fun _ _ _ h => h) (Or.inl ⟨by kernel_rfl, ?_⟩) hHeld ?_
  rotate_left
  · intro w' hSw; try dsimp only at hSw
    have d0 := hSw.1.cell' (i := 0) rfl
    have d1 := hSw.1.cell' (i := 1) rfl
    have d2 := hSw.1.cell' (i := 2) rfl
    have d3 := hSw.1.cell' (i := 3) rfl
    have u0 := hSw.2.cell' (i := 0) rfl
    have u1 := hSw.2.cell' (i := 1) rfl
    have u2 := hSw.2.cell' (i := 2) rfl
    have u3 := hSw.2.cell' (i := 3) rfl
    have u4 := hSw.2.cell' (i := 4) rfl
    have u5 := hSw.2.cell' (i := 5) rfl
    go_simp; try (with_reducible rfl)
  try simp only [Act.put, List.getElem_toArray, List.getElem_cons_succ, List.getElem_cons_zero, List.setIfInBounds_toArray, List.set_cons_zero, List.set_cons_succ]
  refine wpAnyH_take (i := 10) (v := ?_) rfl (by kernel_rfl) (by kernel_rfl) (by kernel_rfl) (fun _ _ _ h => h) (Or.inl ⟨by kernel_rfl, ?_⟩) hHeld ?_
  rotate_left
  · intro w' hSw; try dsimp only at hSw
    have d0 := hSw.1.cell' (i := 0) rfl
    have d1 := hSw.1.cell' (i := 1) rfl
    have d2 := hSw.1.cell' (i := 2) rfl
    have d3 := hSw.1.cell' (i := 3) rfl
    have u0 := hSw.2.cell' (i := 0) rfl
    have u1 := hSw.2.cell' (i := 1) rfl
    have u2 := hSw.2.cell' (i := 2) rfl
    have u3 := hSw.2.cell' (i := 3) rfl
    have u4 := hSw.2.cell' (i := 4) rfl
    have u5 := hSw.2.cell' (i := 5) rfl
    go_simp; try (with_reducible rfl)
  try simp only [Act.put, List.getElem_toArray, List.getElem_cons_succ, List.getElem_cons_zero, List.setIfInBounds_toArray, List.set_cons_zero, List.set_cons_succ]
  refine wpAnyH_take (i := 11) (v := ?_) rfl (by kernel_rfl) (by kernel_rfl) (by kernel_rfl) (fun _ _ _ h => h) (Or.inl ⟨by kernel_rfl, ?_⟩) hHeld ?_
  rotate_left
  · intro w' hSw; try dsimp only at hSw
    have d0 := hSw.1.cell' (i := 0) rfl
    have d1 := hSw.1.cell' (i := 1) rfl
    have d2 := hSw.1.cell' (i := 2) rfl
    have d3 := hSw.1.cell' (i := 3) rfl
    have u0 := hSw.2.cell' (i := 0) rfl
    have u1 := hSw.2.cell' (i := 1) rfl
    have u2 := hSw.2.cell' (i := 2) rfl
    have u3 := hSw.2.cell' (i := 3) rfl
    have u4 := hSw.2.cell' (i := 4) rfl
    have u5 := hSw.2.cell' (i := 5) rfl
    go_simp; try (with_reducible rfl)
  try simp only [Act.put, List.getElem_toArray, List.getElem_cons_succ, List.getElem_cons_zero, List.setIfInBounds_toArray, List.set_cons_zero, List.set_cons_succ]
  refine wpAnyH_take (i := 12) (v := ?_) rfl (by kernel_rfl) (by kernel_rfl) (by kernel_rfl) (fun _ _ _ h => h) (Or.inl ⟨by kernel_rfl, ?_⟩) hHeld ?_
  rotate_left
  · intro w' hSw; try dsimp only at hSw
    have d0 := hSw.1.cell' (i := 0) rfl
    have d1 := hSw.1.cell' (i := 1) rfl
    have d2 := hSw.1.cell' (i := 2) rfl
    have d3 := hSw.1.cell' (i := 3) rfl
    have u0 := hSw.2.cell' (i := 0) rfl
    have u1 := hSw.2.cell' (i := 1) rfl
    have u2 := hSw.2.cell' (i := 2) rfl
    have u3 := hSw.2.cell' (i := 3) rfl
    have u4 := hSw.2.cell' (i := 4) rfl
    have u5 := hSw.2.cell' (i := 5) rfl
    go_simp; try (with_reducible rfl)
  try simp only [Act.put, List.getElem_toArray, List.getElem_cons_succ, List.getElem_cons_zero, List.setIfInBounds_toArray, List.set_cons_zero, List.set_cons_succ]
  refine wpAnyH_ready (rs := [6]) (by kernel_rfl) (by simp) ?_
  refine AllReadyH.cons rfl (fun K hK => ?_) AllReadyH.nil
  go_simp
  refine h1.mono ?_
  rintro e w1 ⟨rfl, c1, A, hP1, hD1⟩
  have Q1 := T0.Q.keepC T0.C A.keep
  refine hK.out _ _ ⟨A.blk T0.C hHeld.1 (by decide) (by decide) (by decide) (by decide), A.blk T0.C hHeld.2 (by decide) (by decide) (by decide) (by decide)⟩ (fun hHeld => ?_)
  clear hK K
  try simp only [Act.put, List.getElem_toArray, List.getElem_cons_succ, List.getElem_cons_zero, List.setIfInBounds_toArray, List.set_cons_zero, List.set_cons_succ]
  refine wpAnyH_ready (rs := [13]) (by kernel_rfl) (by simp) ?_
  refine AllReadyH.cons rfl (fun K hK => ?_) AllReadyH.nil
  go_simp
  refine (h2 _ Q1).mono ?_
  rintro e w2 ⟨rfl, q1, E2, hP2, hR2⟩
  refine hK.out _ _ ⟨hHeld.1.keep E2.keep (Q1.apart hHeld.1 (by decide) (by decide) (by decide) (by decide) (by decide) (by decide)), hHeld.2.keep E2.keep (Q1.apart hHeld.2 (by decide) (by decide) (by decide) (by decide) (by decide) (by decide))⟩ (fun hHeld => ?_)
  clear hK K
  try simp only [Act.put, List.getElem_toArray, List.getElem_cons_succ, List.getElem_cons_zero, List.setIfInBounds_toArray, List.set_cons_zero, List.set_cons_succ]
  refine wpAnyH_take (i := 14) (v := ?_) rfl (by kernel_rfl) (by kernel_rfl) (by kernel_rfl) (fun _ _ _ h => h) (Or.inl ⟨by kernel_rfl, ?_⟩) hHeld ?_
  rotate_left
  · intro w' hSw; try dsimp only at hSw
    go_simp; try (with_reducible rfl)
  try simp only [Act.put, List.getElem_toArray, List.getElem_cons_succ, List.getElem_cons_zero, List.setIfInBounds_toArray, List.set_cons_zero, List.set_cons_succ]
  refine wpAnyH_take (i := 15) (v := ?_) rfl (by kernel_rfl) (by kernel_rfl) (by kernel_rfl) (fun _ _ _ h => h) (Or.inl ⟨by kernel_rfl, ?_⟩) hHeld ?_
  rotate_left
  · intro w' hSw; try dsimp only at hSw
    go_simp; try (with_reducible rfl)
  try simp only [Act.put, List.getElem_toArray, List.getElem_cons_succ, List.getElem_cons_zero, List.setIfInBounds_toArray, List.set_cons_zero, List.set_cons_succ]
  refine wpAnyH_done (by kernel_rfl) ?_ _
  refine NoPanic.normal ?_
  clear hHeld
  go_wp2
  go_ret
  obtain ⟨T2, hb2⟩ := T0.bothC (M := N + 1) A E2 (by rw [hP2, hP1]) (by rw [hD1]; exact hR2) (by rw [hP1, hD1]; exact hpi)
  exact ⟨ret_bool (by simp), c1, q1, T2, (BelC.of hb0.drew T.le).trans hb2, A.d, E2.g⟩
set_option linter.unusedSimpArgs false in
set_option linter.unusedVariables false in
set_option maxRecDepth 100000 in
set_option maxHeartbeats 4000000 in
theorem does_clean {B0 : Nat} {w : World} {tw : Nat} {c : CS} {q : QS} {N : Nat} (T : Twin B0 w tw c q N) (hN : N ≤ 900) (i : Int) (f : Nat) (cl : Int) (p : Option Addr) (n cc : Nat) (cut : Int) (xs : List Int) (hI : InI w p n cc xs) (hlow : ∀ a, p = some a → 0 < n → a.block < B0) : Calls Tryz.prog 9 #[.pointer (some ⟨tw, 0, none⟩), .agg #[.int .i64 4, .int .i64 i, .int .u8 (f : Int), .int .i64 cl, .slice p n cc, .int .i64 cut]] w (DoesOk B0 tw c q N w) := by
  have hb0 := below_alloc w (.cells #[.int .i64 4, .int .i64 i, .int .u8 (f : Int), .int .i64 cl, .slice p n cc, .int .i64 cut] 42)
  have g3 := Blk.new' w 42 #[.int .i64 4, .int .i64 i, .int .u8 (f : Int), .int .i64 cl, .slice p n cc, .int .i64 cut]
  have T0 := T.below hb0.drew
  have tb := T0.tb
  have g3d := g3.drew
  have k0 := g3.cell' (i := 0) rfl
  have k2 := g3.cell' (i := 2) rfl
  have hbB := (hb0.drew).mono T.le
  have hI0 := hI.lowB hlow hbB
  obtain ⟨E, P1, D1, hpi, h1, h2⟩ := clean_two T0 hN p n cc xs hI0 hlow
  go_enter Tryz.func9, Tryz.ntmps9
  go_upto_region 16 with fail
  generalize w.alloc (.cells #[.int .i64 4, .int .i64 i, .int .u8 (f : Int), .int .i64 cl, .slice p n cc, .int .i64 cut] 42) = V at *
  refine wp_region_noPanic ?_
  refine wp_region_held_drew (S := (fun X => Blk X tw 39 [.pointer (some ⟨c.d, 0, none⟩), .pointer (some ⟨c.c, 0, none⟩), .pointer (some ⟨q.g, 0, none⟩), .pointer (some ⟨q.q, 0, none⟩)] ∧ Blk X w.heap.size 42 [.int .i64 4, .int .i64 i, .int .u8 (f : Int), .int .i64 cl, .slice p n cc, .int .i64 cut])) (by kernel_rfl) ⟨tb, g3d⟩ (fun hHeld => ?_)
  refine wpAnyH_take (i := 0) (v := ?_) rfl (by kernel_rfl) (by kernel_rfl) (by kernel_rfl) (fun _ _ _ h => h) (Or.inl ⟨by kernel_rfl, ?_⟩) hHeld ?_
  rotate_left
  · intro w' hSw; try dsimp only at hSw
    have d0 := hSw.1.cell' (i := 0) rfl
    have d1 := hSw.1.cell' (i := 1) rfl
    have d2 := hSw.1.cell' (i := 2) rfl
    have d3 := hSw.1.cell' (i := 3) rfl
    have u0 := hSw.2.cell' (i := 0) rfl
    have u1 := hSw.2.cell' (i := 1) rfl
    have u2 := hSw.2.cell' (i := 2) rfl
    have u3 := hSw.2.cell' (i := 3) rfl
    have u4 := hSw.2.cell' (i := 4) rfl
    have u5 := hSw.2.cell' (i := 5) rfl
    go_simp; try (with_reducible rfl)
  try simp only [Act.put, List.getElem_toArray, List.getElem_cons_succ, List.getElem_cons_zero, List.setIfInBounds_toArray, List.set_cons_zero, List.set_cons_succ]
  refine wpAnyH_take (i := 1) (v := ?_) rfl (by kernel_rfl) (by kernel_rfl) (by kernel_rfl) (fun _ _ _ h => h) (Or.inl ⟨by kernel_rfl, ?_⟩) hHeld ?_
  rotate_left
  · intro w' hSw; try dsimp only at hSw
    have d0 := hSw.1.cell' (i := 0) rfl
    have d1 := hSw.1.cell' (i := 1) rfl
    have d2 := hSw.1.cell' (i := 2) rfl
    have d3 := hSw.1.cell' (i := 3) rfl
    have u0 := hSw.2.cell' (i := 0) rfl
    have u1 := hSw.2.cell' (i := 1) rfl
    have u2 := hSw.2.cell' (i := 2) rfl
    have u3 := hSw.2.cell' (i := 3) rfl
    have u4 := hSw.2.cell' (i := 4) rfl
    have u5 := hSw.2.cell' (i := 5) rfl
    go_simp; try (with_reducible rfl)
  try simp only [Act.put, List.getElem_toArray, List.getElem_cons_succ, List.getElem_cons_zero, List.setIfInBounds_toArray, List.set_cons_zero, List.set_cons_succ]
  refine wpAnyH_take (i := 2) (v := ?_) rfl (by kernel_rfl) (by kernel_rfl) (by kernel_rfl) (fun _ _ _ h => h) (Or.inl ⟨by kernel_rfl, ?_⟩) hHeld ?_
  rotate_left
  · intro w' hSw; try dsimp only at hSw
    have d0 := hSw.1.cell' (i := 0) rfl
    have d1 := hSw.1.cell' (i := 1) rfl
    have d2 := hSw.1.cell' (i := 2) rfl
    have d3 := hSw.1.cell' (i := 3) rfl
    have u0 := hSw.2.cell' (i := 0) rfl
    have u1 := hSw.2.cell' (i := 1) rfl
    have u2 := hSw.2.cell' (i := 2) rfl
    have u3 := hSw.2.cell' (i := 3) rfl
    have u4 := hSw.2.cell' (i := 4) rfl
    have u5 := hSw.2.cell' (i := 5) rfl
    go_simp; try (with_reducible rfl)
  try simp only [Act.put, List.getElem_toArray, List.getElem_cons_succ, List.getElem_cons_zero, List.setIfInBounds_toArray, List.set_cons_zero, List.set_cons_succ]
  refine wpAnyH_take (i := 3) (v := ?_) rfl (by kernel_rfl) (by kernel_rfl) (by kernel_rfl) (fun _ _ _ h => h) (Or.inl ⟨by kernel_rfl, ?_⟩) hHeld ?_
  rotate_left
  · intro w' hSw; try dsimp only at hSw
    have d0 := hSw.1.cell' (i := 0) rfl
    have d1 := hSw.1.cell' (i := 1) rfl
    have d2 := hSw.1.cell' (i := 2) rfl
    have d3 := hSw.1.cell' (i := 3) rfl
    have u0 := hSw.2.cell' (i := 0) rfl
    have u1 := hSw.2.cell' (i := 1) rfl
    have u2 := hSw.2.cell' (i := 2) rfl
    have u3 := hSw.2.cell' (i := 3) rfl
    have u4 := hSw.2.cell' (i := 4) rfl
    have u5 := hSw.2.cell' (i := 5) rfl
    go_simp; try (with_reducible rfl)
  try simp only [Act.put, List.getElem_toArray, List.getElem_cons_succ, List.getElem_cons_zero, List.setIfInBounds_toArray, List.set_cons_zero, List.set_cons_succ]
  refine wpAnyH_take (i := 4) (v := ?_) rfl (by kernel_rfl) (by kernel_rfl) (by kernel_rfl) (fun _ _ _ h => h) (Or.inl ⟨by kernel_rfl, ?_⟩) hHeld ?_
  rotate_left
  · intro w' hSw; try dsimp only at hSw
    have d0 := hSw.1.cell' (i := 0) rfl
    have d1 := hSw.1.cell' (i := 1) rfl
    have d2 := hSw.1.cell' (i := 2) rfl
    have d3 := hSw.1.cell' (i := 3) rfl
    have u0 := hSw.2.cell' (i := 0) rfl
    have u1 := hSw.2.cell' (i := 1) rfl
    have u2 := hSw.2.cell' (i := 2) rfl
    have u3 := hSw.2.cell' (i := 3) rfl
    have u4 := hSw.2.cell' (i := 4) rfl
    have u5 := hSw.2.cell' (i := 5) rfl
    go_simp; try (with_reducible rfl)
  try simp only [Act.put, List.getElem_toArray, List.getElem_cons_succ, List.getElem_cons_zero, List.setIfInBounds_toArray, List.set_cons_zero, List.set_cons_succ]
  refine wpAnyH_take (i := 5) (v := ?_) rfl (by kernel_rfl) (by kernel_rfl) (by kernel_rfl) (fun _ _ _ h => h) (Or.inl ⟨by kernel_rfl, ?_⟩) hHeld ?_
  rotate_left
  · intro w' hSw; try dsimp only at hSw
    have d0 := hSw.1.cell' (i := 0) rfl
    have d1 := hSw.1.cell' (i := 1) rfl
    have d2 := hSw.1.cell' (i := 2) rfl
    have d3 := hSw.1.cell' (i := 3) rfl
    have u0 := hSw.2.cell' (i := 0) rfl
    have u1 := hSw.2.cell' (i := 1) rfl
    have u2 := hSw.2.cell' (i := 2) rfl
    have u3 := hSw.2.cell' (i := 3) rfl
    have u4 := hSw.2.cell' (i := 4) rfl
    have u5 := hSw.2.cell' (i := 5) rfl
    go_simp; try (with_reducible rfl)
  try simp only [Act.put, List.getElem_toArray, List.getElem_cons_succ, List.getElem_cons_zero, List.setIfInBounds_toArray, List.set_cons_zero, List.set_cons_succ]
  refine wpAnyH_take (i := 7) (v := ?_) rfl (by kernel_rfl) (by kernel_rfl) (by kernel_rfl) (fun _ _ _ h => h) (Or.inl ⟨by kernel_rfl, ?_⟩) hHeld ?_
  rotate_left
  · intro w' hSw; try dsimp only at hSw
    have d0 := hSw.1.cell' (i := 0) rfl
    have d1 := hSw.1.cell' (i := 1) rfl
    have d2 := hSw.1.cell' (i := 2) rfl
    have d3 := hSw.1.cell' (i := 3) rfl
    have u0 := hSw.2.cell' (i := 0) rfl
    have u1 := hSw.2.cell' (i := 1) rfl
    have u2 := hSw.2.cell' (i := 2) rfl
    have u3 := hSw.2.cell' (i := 3) rfl
    have u4 := hSw.2.cell' (i := 4) rfl
    have u5 := hSw.2.cell' (i := 5) rfl
    go_simp; try (with_reducible rfl)
  try simp only [Act.put, List.getElem_toArray, List.getElem_cons_succ, List.getElem_cons_zero, List.setIfInBounds_toArray, List.set_cons_zero, List.set_cons_succ]
  refine wpAnyH_take (i := 8) (v := ?_) rfl (by kernel_rfl) (by kernel_rfl) (by kernel_rfl) (fun _ _ _ h => h) (Or.inl ⟨by kernel_rfl, ?_⟩) hHeld ?_
  rotate_left
  · intro w' hSw; try dsimp only at hSw
    have d0 := hSw.1.cell' (i := 0) rfl
    have d1 := hSw.1.cell' (i := 1) rfl
    have d2 := hSw.1.cell' (i := 2) rfl
    have d3 := hSw.1.cell' (i := 3) rfl
    have u0 := hSw.2.cell' (i := 0) rfl
    have u1 := hSw.2.cell' (i := 1) rfl
    have u2 := hSw.2.cell' (i := 2) rfl
    have u3 := hSw.2.cell' (i := 3) rfl
    have u4 := hSw.2.cell' (i := 4) rfl
    have u5 := hSw.2.cell' (i := 5) rfl
    go_simp; try (with_reducible rfl)
  try simp only [Act.put, List.getElem_toArray, List.getElem_cons_succ, List.getElem_cons_zero, List.setIfInBounds_toArray, List.set_cons_zero, List.set_cons_succ]
  refine wpAnyH_take (i := 9) (v := ?_) rfl (by kernel_rfl) (by kernel_rfl) (by kernel_rfl) (fun _ _ _ h => h) (Or.inl ⟨by kernel_rfl, ?_⟩) hHeld ?_
  rotate_left
  · intro w' hSw; try dsimp only at hSw
    have d0 := hSw.1.cell' (i := 0) rfl
    have d1 := hSw.1.cell' (i := 1) rfl
    have d2 := hSw.1.cell' (i := 2) rfl
    have d3 := hSw.1.cell' (i := 3) rfl
    have u0 := hSw.2.cell' (i := 0) rfl
    have u1 := hSw.2.cell' (i := 1) rfl
    have u2 := hSw.2.cell' (i := 2) rfl
    have u3 := hSw.2.cell' (i := 3) rfl
    have u4 := hSw.2.cell' (i := 4) rfl
    have u5 := hSw.2.cell' (i := 5) rfl
    go_simp; try (with_reducible rfl)
  try simp only [Act.put, List.getElem_toArray, List.getElem_cons_succ, List.getElem_cons_zero, List.setIfInBounds_toArray, List.set_cons_zero, List.set_cons_succ]
  refine wpAnyH_take (i := 10) (v := ?_) rfl (by kernel_rfl) (by kernel_rfl) (by kernel_rfl) (fun _ _ _ h => h) (Or.inl ⟨by kernel_rfl, ?_⟩) hHeld ?_
  rotate_left
  · intro w' hSw; try dsimp only at hSw
    have d0 := hSw.1.cell' (i := 0) rfl
    have d1 := hSw.1.cell' (i := 1) rfl
    have d2 := hSw.1.cell' (i := 2) rfl
    have d3 := hSw.1.cell' (i := 3) rfl
    have u0 := hSw.2.cell' (i := 0) rfl
    have u1 := hSw.2.cell' (i := 1) rfl
    have u2 := hSw.2.cell' (i := 2) rfl
    have u3 := hSw.2.cell' (i := 3) rfl
    have u4 := hSw.2.cell' (i := 4) rfl
    have u5 := hSw.2.cell' (i := 5) rfl
    go_simp; try (with_reducible rfl)
  try simp only [Act.put, List.getElem_toArray, List.getElem_cons_succ, List.getElem_cons_zero, List.setIfInBounds_toArray, List.set_cons_zero, List.set_cons_succ]
  refine wpAnyH_take (i := 11) (v := ?_) rfl (by kernel_rfl) (by kernel_rfl) (by kernel_rfl) (fun _ _ _ h => h) (Or.inl ⟨by kernel_rfl, ?_⟩) hHeld ?_
  rotate_left
  · intro w' hSw; try dsimp only at hSw
    have d0 := hSw.1.cell' (i := 0) rfl
    have d1 := hSw.1.cell' (i := 1) rfl
    have d2 := hSw.1.cell' (i := 2) rfl
    have d3 := hSw.1.cell' (i := 3) rfl
    have u0 := hSw.2.cell' (i := 0) rfl
    have u1 := hSw.2.cell' (i := 1) rfl
    have u2 := hSw.2.cell' (i := 2) rfl
    have u3 := hSw.2.cell' (i := 3) rfl
    have u4 := hSw.2.cell' (i := 4) rfl
    have u5 := hSw.2.cell' (i := 5) rfl
    go_simp; try (with_reducible rfl)
  try simp only [Act.put, List.getElem_toArray, List.getElem_cons_succ, List.getElem_cons_zero, List.setIfInBounds_toArray, List.set_cons_zero, List.set_cons_succ]
  refine wpAnyH_take (i := 12) (v := ?_) rfl (by kernel_rfl) (by kernel_rfl) (by kernel_rfl) (fun _ _ _ h => h) (Or.inl ⟨by kernel_rfl, ?_⟩) hHeld ?_
  rotate_left
  · intro w' hSw; try dsimp only at hSw
    have d0 := hSw.1.cell' (i := 0) rfl
    have d1 := hSw.1.cell' (i := 1) rfl
    have d2 := hSw.1.cell' (i := 2) rfl
    have d3 := hSw.1.cell' (i := 3) rfl
    have u0 := hSw.2.cell' (i := 0) rfl
    have u1 := hSw.2.cell' (i := 1) rfl
    have u2 := hSw.2.cell' (i := 2) rfl
    have u3 := hSw.2.cell' (i := 3) rfl
    have u4 := hSw.2.cell' (i := 4) rfl
    have u5 := hSw.2.cell' (i := 5) rfl
    go_simp; try (with_reducible rfl)
  try simp only [Act.put, List.getElem_toArray, List.getElem_cons_succ, List.getElem_cons_zero, List.setIfInBounds_toArray, List.set_cons_zero, List.set_cons_succ]
  refine wpAnyH_ready (rs := [6]) (by kernel_rfl) (by simp) ?_
  refine AllReadyH.cons rfl (fun K hK => ?_) AllReadyH.nil
  go_simp
  refine h1.mono ?_
  rintro e w1 ⟨rfl, c1, A, hP1, hD1⟩
  have Q1 := T0.Q.keepC T0.C A.keep
  refine hK.out _ _ ⟨A.blk T0.C hHeld.1 (by decide) (by decide) (by decide) (by decide), A.blk T0.C hHeld.2 (by decide) (by decide) (by decide) (by decide)⟩ (fun hHeld => ?_)
  clear hK K
  try simp only [Act.put, List.getElem_toArray, List.getElem_cons_succ, List.getElem_cons_zero, List.setIfInBounds_toArray, List.set_cons_zero, List.set_cons_succ]
  have hI1 := hI0.lowB hlow (A.belowB T0.le T0.fc)
  refine wpAnyH_ready (rs := [13]) (by kernel_rfl) (by simp) ?_
  refine AllReadyH.cons rfl (fun K hK => ?_) AllReadyH.nil
  go_simp
  refine (h2 _ Q1 hI1).mono ?_
  rintro e w2 ⟨rfl, q1, E2, hP2, hR2⟩
  refine hK.out _ _ ⟨hHeld.1.keep E2.keep (Q1.apart hHeld.1 (by decide) (by decide) (by decide) (by decide) (by decide) (by decide)), hHeld.2.keep E2.keep (Q1.apart hHeld.2 (by decide) (by decide) (by decide) (by decide) (by decide) (by decide))⟩ (fun hHeld => ?_)
  clear hK K
  try simp only [Act.put, List.getElem_toArray, List.getElem_cons_succ, List.getElem_cons_zero, List.setIfInBounds_toArray, List.set_cons_zero, List.set_cons_succ]
  refine wpAnyH_take (i := 14) (v := ?_) rfl (by kernel_rfl) (by kernel_rfl) (by kernel_rfl) (fun _ _ _ h => h) (Or.inl ⟨by kernel_rfl, ?_⟩) hHeld ?_
  rotate_left
  · intro w' hSw; try dsimp only at hSw
    go_simp; try (with_reducible rfl)
  try simp only [Act.put, List.getElem_toArray, List.getElem_cons_succ, List.getElem_cons_zero, List.setIfInBounds_toArray, List.set_cons_zero, List.set_cons_succ]
  refine wpAnyH_take (i := 15) (v := ?_) rfl (by kernel_rfl) (by kernel_rfl) (by kernel_rfl) (fun _ _ _ h => h) (Or.inl ⟨by kernel_rfl, ?_⟩) hHeld ?_
  rotate_left
  · intro w' hSw; try dsimp only at hSw
    go_simp; try (with_reducible rfl)
  try simp only [Act.put, List.getElem_toArray, List.getElem_cons_succ, List.getElem_cons_zero, List.setIfInBounds_toArray, List.set_cons_zero, List.set_cons_succ]
  refine wpAnyH_done (by kernel_rfl) ?_ _
  refine NoPanic.normal ?_
  clear hHeld
  go_wp2
  go_ret
  obtain ⟨T2, hb2⟩ := T0.bothC (M := N + 1) A E2 (by rw [hP2, hP1]) (by rw [hD1]; exact hR2) (by rw [hP1, hD1]; exact hpi)
  exact ⟨ret_bool (by simp), c1, q1, T2, (BelC.of hb0.drew T.le).trans hb2, A.d, E2.g⟩
set_option linter.unusedSimpArgs false in
set_option linter.unusedVariables false in
set_option maxRecDepth 100000 in
set_option maxHeartbeats 4000000 in
theorem does_sync {B0 : Nat} {w : World} {tw : Nat} {c : CS} {q : QS} {N : Nat} (T : Twin B0 w tw c q N) (hN : N ≤ 900) (i : Int) (f : Nat) (cl : Int) (p : Option Addr) (n cc : Nat) (cut : Int) : Calls Tryz.prog 9 #[.pointer (some ⟨tw, 0, none⟩), .agg #[.int .i64 5, .int .i64 i, .int .u8 (f : Int), .int .i64 cl, .slice p n cc, .int .i64 cut]] w (DoesOk B0 tw c q N w) := by
  have hb0 := below_alloc w (.cells #[.int .i64 5, .int .i64 i, .int .u8 (f : Int), .int .i64 cl, .slice p n cc, .int .i64 cut] 42)
  have g3 := Blk.new' w 42 #[.int .i64 5, .int .i64 i, .int .u8 (f : Int), .int .i64 cl, .slice p n cc, .int .i64 cut]
  have T0 := T.below hb0.drew
  have tb := T0.tb
  have g3d := g3.drew
  have k0 := g3.cell' (i := 0) rfl
  have k2 := g3.cell' (i := 2) rfl
  have hbB := (hb0.drew).mono T.le
  obtain ⟨E, P1, D1, hpi, h1, h2⟩ := sync_two T0 hN cl
  go_enter Tryz.func9, Tryz.ntmps9
  go_upto_region 18 with fail
  generalize w.alloc (.cells #[.int .i64 5, .int .i64 i, .int .u8 (f : Int), .int .i64 cl, .slice p n cc, .int .i64 cut] 42) = V at *
  refine wp_region_noPanic ?_
  refine wp_region_held_drew (S := (fun X => Blk X tw 39 [.pointer (some ⟨c.d, 0, none⟩), .pointer (some ⟨c.c, 0, none⟩), .pointer (some ⟨q.g, 0, none⟩), .pointer (some ⟨q.q, 0, none⟩)] ∧ Blk X w.heap.size 42 [.int .i64 5, .int .i64 i, .int .u8 (f : Int), .int .i64 cl, .slice p n cc, .int .i64 cut])) (by kernel_rfl) ⟨tb, g3d⟩ (fun hHeld => ?_)
  refine wpAnyH_take (i := 0) (v := ?_) rfl (by kernel_rfl) (by kernel_rfl) (by kernel_rfl) (fun _ _ _ h => h) (Or.inl ⟨by kernel_rfl, ?_⟩) hHeld ?_
  rotate_left
  · intro w' hSw; try dsimp only at hSw
    have d0 := hSw.1.cell' (i := 0) rfl
    have d1 := hSw.1.cell' (i := 1) rfl
    have d2 := hSw.1.cell' (i := 2) rfl
    have d3 := hSw.1.cell' (i := 3) rfl
    have u0 := hSw.2.cell' (i := 0) rfl
    have u1 := hSw.2.cell' (i := 1) rfl
    have u2 := hSw.2.cell' (i := 2) rfl
    have u3 := hSw.2.cell' (i := 3) rfl
    have u4 := hSw.2.cell' (i := 4) rfl
    have u5 := hSw.2.cell' (i := 5) rfl
    go_simp; try (with_reducible rfl)
  try simp only [Act.put, List.getElem_toArray, List.getElem_cons_succ, List.getElem_cons_zero, List.setIfInBounds_toArray, List.set_cons_zero, List.set_cons_succ]
  refine wpAnyH_take (i := 1) (v := ?_) rfl (by kernel_rfl) (by kernel_rfl) (by kernel_rfl) (fun _ _ _ h => h) (Or.inl ⟨by kernel_rfl, ?_⟩) hHeld ?_
  rotate_left
  · intro w' hSw; try dsimp only at hSw
    have d0 := hSw.1.cell' (i := 0) rfl
    have d1 := hSw.1.cell' (i := 1) rfl
    have d2 := hSw.1.cell' (i := 2) rfl
    have d3 := hSw.1.cell' (i := 3) rfl
    have u0 := hSw.2.cell' (i := 0) rfl
    have u1 := hSw.2.cell' (i := 1) rfl
    have u2 := hSw.2.cell' (i := 2) rfl
    have u3 := hSw.2.cell' (i := 3) rfl
    have u4 := hSw.2.cell' (i := 4) rfl
    have u5 := hSw.2.cell' (i := 5) rfl
    go_simp; try (with_reducible rfl)
  try simp only [Act.put, List.getElem_toArray, List.getElem_cons_succ, List.getElem_cons_zero, List.setIfInBounds_toArray, List.set_cons_zero, List.set_cons_succ]
  refine wpAnyH_take (i := 2) (v := ?_) rfl (by kernel_rfl) (by kernel_rfl) (by kernel_rfl) (fun _ _ _ h => h) (Or.inl ⟨by kernel_rfl, ?_⟩) hHeld ?_
  rotate_left
  · intro w' hSw; try dsimp only at hSw
    have d0 := hSw.1.cell' (i := 0) rfl
    have d1 := hSw.1.cell' (i := 1) rfl
    have d2 := hSw.1.cell' (i := 2) rfl
    have d3 := hSw.1.cell' (i := 3) rfl
    have u0 := hSw.2.cell' (i := 0) rfl
    have u1 := hSw.2.cell' (i := 1) rfl
    have u2 := hSw.2.cell' (i := 2) rfl
    have u3 := hSw.2.cell' (i := 3) rfl
    have u4 := hSw.2.cell' (i := 4) rfl
    have u5 := hSw.2.cell' (i := 5) rfl
    go_simp; try (with_reducible rfl)
  try simp only [Act.put, List.getElem_toArray, List.getElem_cons_succ, List.getElem_cons_zero, List.setIfInBounds_toArray, List.set_cons_zero, List.set_cons_succ]
  refine wpAnyH_take (i := 3) (v := ?_) rfl (by kernel_rfl) (by kernel_rfl) (by kernel_rfl) (fun _ _ _ h => h) (Or.inl ⟨by kernel_rfl, ?_⟩) hHeld ?_
  rotate_left
  · intro w' hSw; try dsimp only at hSw
    have d0 := hSw.1.cell' (i := 0) rfl
    have d1 := hSw.1.cell' (i := 1) rfl
    have d2 := hSw.1.cell' (i := 2) rfl
    have d3 := hSw.1.cell' (i := 3) rfl
    have u0 := hSw.2.cell' (i := 0) rfl
    have u1 := hSw.2.cell' (i := 1) rfl
    have u2 := hSw.2.cell' (i := 2) rfl
    have u3 := hSw.2.cell' (i := 3) rfl
    have u4 := hSw.2.cell' (i := 4) rfl
    have u5 := hSw.2.cell' (i := 5) rfl
    go_simp; try (with_reducible rfl)
  try simp only [Act.put, List.getElem_toArray, List.getElem_cons_succ, List.getElem_cons_zero, List.setIfInBounds_toArray, List.set_cons_zero, List.set_cons_succ]
  refine wpAnyH_take (i := 4) (v := ?_) rfl (by kernel_rfl) (by kernel_rfl) (by kernel_rfl) (fun _ _ _ h => h) (Or.inl ⟨by kernel_rfl, ?_⟩) hHeld ?_
  rotate_left
  · intro w' hSw; try dsimp only at hSw
    have d0 := hSw.1.cell' (i := 0) rfl
    have d1 := hSw.1.cell' (i := 1) rfl
    have d2 := hSw.1.cell' (i := 2) rfl
    have d3 := hSw.1.cell' (i := 3) rfl
    have u0 := hSw.2.cell' (i := 0) rfl
    have u1 := hSw.2.cell' (i := 1) rfl
    have u2 := hSw.2.cell' (i := 2) rfl
    have u3 := hSw.2.cell' (i := 3) rfl
    have u4 := hSw.2.cell' (i := 4) rfl
    have u5 := hSw.2.cell' (i := 5) rfl
    go_simp; try (with_reducible rfl)
  try simp only [Act.put, List.getElem_toArray, List.getElem_cons_succ, List.getElem_cons_zero, List.setIfInBounds_toArray, List.set_cons_zero, List.set_cons_succ]
  refine wpAnyH_take (i := 5) (v := ?_) rfl (by kernel_rfl) (by kernel_rfl) (by kernel_rfl) (fun _ _ _ h => h) (Or.inl ⟨by kernel_rfl, ?_⟩) hHeld ?_
  rotate_left
  · intro w' hSw; try dsimp only at hSw
    have d0 := hSw.1.cell' (i := 0) rfl
    have d1 := hSw.1.cell' (i := 1) rfl
    have d2 := hSw.1.cell' (i := 2) rfl
    have d3 := hSw.1.cell' (i := 3) rfl
    have u0 := hSw.2.cell' (i := 0) rfl
    have u1 := hSw.2.cell' (i := 1) rfl
    have u2 := hSw.2.cell' (i := 2) rfl
    have u3 := hSw.2.cell' (i := 3) rfl
    have u4 := hSw.2.cell' (i := 4) rfl
    have u5 := hSw.2.cell' (i := 5) rfl
    go_simp; try (with_reducible rfl)
  try simp only [Act.put, List.getElem_toArray, List.getElem_cons_succ, List.getElem_cons_zero, List.setIfInBounds_toArray, List.set_cons_zero, List.set_cons_succ]
  refine wpAnyH_take (i := 7) (v := ?_) rfl (by kernel_rfl) (by kernel_rfl) (by kernel_rfl) (fun _ _ _ h => h) (Or.inl ⟨by kernel_rfl, ?_⟩) hHeld ?_
  rotate_left
  · intro w' hSw; try dsimp only at hSw
    have d0 := hSw.1.cell' (i := 0) rfl
    have d1 := hSw.1.cell' (i := 1) rfl
    have d2 := hSw.1.cell' (i := 2) rfl
    have d3 := hSw.1.cell' (i := 3) rfl
    have u0 := hSw.2.cell' (i := 0) rfl
    have u1 := hSw.2.cell' (i := 1) rfl
    have u2 := hSw.2.cell' (i := 2) rfl
    have u3 := hSw.2.cell' (i := 3) rfl
    have u4 := hSw.2.cell' (i := 4) rfl
    have u5 := hSw.2.cell' (i := 5) rfl
    go_simp; try (with_reducible rfl)
  try simp only [Act.put, List.getElem_toArray, List.getElem_cons_succ, List.getElem_cons_zero, List.setIfInBounds_toArray, List.set_cons_zero, List.set_cons_succ]
  refine wpAnyH_take (i := 8) (v := ?_) rfl (by kernel_rfl) (by kernel_rfl) (by kernel_rfl) (fun _ _ _ h => h) (Or.inl ⟨by kernel_rfl, ?_⟩) hHeld ?_
  rotate_left
  · intro w' hSw; try dsimp only at hSw
    have d0 := hSw.1.cell' (i := 0) rfl
    have d1 := hSw.1.cell' (i := 1) rfl
    have d2 := hSw.1.cell' (i := 2) rfl
    have d3 := hSw.1.cell' (i := 3) rfl
    have u0 := hSw.2.cell' (i := 0) rfl
    have u1 := hSw.2.cell' (i := 1) rfl
    have u2 := hSw.2.cell' (i := 2) rfl
    have u3 := hSw.2.cell' (i := 3) rfl
    have u4 := hSw.2.cell' (i := 4) rfl
    have u5 := hSw.2.cell' (i := 5) rfl
    go_simp; try (with_reducible rfl)
  try simp only [Act.put, List.getElem_toArray, List.getElem_cons_succ, List.getElem_cons_zero, List.setIfInBounds_toArray, List.set_cons_zero, List.set_cons_succ]
  refine wpAnyH_take (i := 9) (v := ?_) rfl (by kernel_rfl) (by kernel_rfl) (by kernel_rfl) (fun _ _ _ h => h) (Or.inl ⟨by kernel_rfl, ?_⟩) hHeld ?_
  rotate_left
  · intro w' hSw; try dsimp only at hSw
    have d0 := hSw.1.cell' (i := 0) rfl
    have d1 := hSw.1.cell' (i := 1) rfl
    have d2 := hSw.1.cell' (i := 2) rfl
    have d3 := hSw.1.cell' (i := 3) rfl
    have u0 := hSw.2.cell' (i := 0) rfl
    have u1 := hSw.2.cell' (i := 1) rfl
    have u2 := hSw.2.cell' (i := 2) rfl
    have u3 := hSw.2.cell' (i := 3) rfl
    have u4 := hSw.2.cell' (i := 4) rfl
    have u5 := hSw.2.cell' (i := 5) rfl
    go_simp; try (with_reducible rfl)
  try simp only [Act.put, List.getElem_toArray, List.getElem_cons_succ, List.getElem_cons_zero, List.setIfInBounds_toArray, List.set_cons_zero, List.set_cons_succ]
  refine wpAnyH_take (i := 10) (v := ?_) rfl (by kernel_rfl) (by kernel_rfl) (by kernel_rfl) (fun _ _ _ h => h) (Or.inl ⟨by kernel_rfl, ?_⟩) hHeld ?_
  rotate_left
  · intro w' hSw; try dsimp only at hSw
    have d0 := hSw.1.cell' (i := 0) rfl
    have d1 := hSw.1.cell' (i := 1) rfl
    have d2 := hSw.1.cell' (i := 2) rfl
    have d3 := hSw.1.cell' (i := 3) rfl
    have u0 := hSw.2.cell' (i := 0) rfl
    have u1 := hSw.2.cell' (i := 1) rfl
    have u2 := hSw.2.cell' (i := 2) rfl
    have u3 := hSw.2.cell' (i := 3) rfl
    have u4 := hSw.2.cell' (i := 4) rfl
    have u5 := hSw.2.cell' (i := 5) rfl
    go_simp; try (with_reducible rfl)
  try simp only [Act.put, List.getElem_toArray, List.getElem_cons_succ, List.getElem_cons_zero, List.setIfInBounds_toArray, List.set_cons_zero, List.set_cons_succ]
  refine wpAnyH_take (i := 11) (v := ?_) rfl (by kernel_rfl) (by kernel_rfl) (by kernel_rfl) (fun _ _ _ h => h) (Or.inl ⟨by kernel_rfl, ?_⟩) hHeld ?_
  rotate_left
  · intro w' hSw; try dsimp only at hSw
    have d0 := hSw.1.cell' (i := 0) rfl
    have d1 := hSw.1.cell' (i := 1) rfl
    have d2 := hSw.1.cell' (i := 2) rfl
    have d3 := hSw.1.cell' (i := 3) rfl
    have u0 := hSw.2.cell' (i := 0) rfl
    have u1 := hSw.2.cell' (i := 1) rfl
    have u2 := hSw.2.cell' (i := 2) rfl
    have u3 := hSw.2.cell' (i := 3) rfl
    have u4 := hSw.2.cell' (i := 4) rfl
    have u5 := hSw.2.cell' (i := 5) rfl
    go_simp; try (with_reducible rfl)
  try simp only [Act.put, List.getElem_toArray, List.getElem_cons_succ, List.getElem_cons_zero, List.setIfInBounds_toArray, List.set_cons_zero, List.set_cons_succ]
  refine wpAnyH_take (i := 12) (v := ?_) rfl (by kernel_rfl) (by kernel_rfl) (by kernel_rfl) (fun _ _ _ h => h) (Or.inl ⟨by kernel_rfl, ?_⟩) hHeld ?_
  rotate_left
  · intro w' hSw; try dsimp only at hSw
    have d0 := hSw.1.cell' (i := 0) rfl
    have d1 := hSw.1.cell' (i := 1) rfl
    have d2 := hSw.1.cell' (i := 2) rfl
    have d3 := hSw.1.cell' (i := 3) rfl
    have u0 := hSw.2.cell' (i := 0) rfl
    have u1 := hSw.2.cell' (i := 1) rfl
    have u2 := hSw.2.cell' (i := 2) rfl
    have u3 := hSw.2.cell' (i := 3) rfl
    have u4 := hSw.2.cell' (i := 4) rfl
    have u5 := hSw.2.cell' (i := 5) rfl
    go_simp; try (with_reducible rfl)
  try simp only [Act.put, List.getElem_toArray, List.getElem_cons_succ, List.getElem_cons_zero, List.setIfInBounds_toArray, List.set_cons_zero, List.set_cons_succ]
  refine wpAnyH_ready (rs := [6]) (by kernel_rfl) (by simp) ?_
  refine AllReadyH.cons rfl (fun K hK => ?_) AllReadyH.nil
  go_simp
  refine h1.mono ?_
  rintro e w1 ⟨rfl, c1, A, hP1, hD1⟩
  have Q1 := T0.Q.keepC T0.C A.keep
  refine hK.out _ _ ⟨A.blk T0.C hHeld.1 (by decide) (by decide) (by decide) (by decide), A.blk T0.C hHeld.2 (by decide) (by decide) (by decide) (by decide)⟩ (fun hHeld => ?_)
  clear hK K
  try simp only [Act.put, List.getElem_toArray, List.getElem_cons_succ, List.getElem_cons_zero, List.setIfInBounds_toArray, List.set_cons_zero, List.set_cons_succ]
  refine wpAnyH_ready (rs := [13]) (by kernel_rfl) (by simp) ?_
  refine AllReadyH.cons rfl (fun K hK => ?_) AllReadyH.nil
  go_simp
  refine (h2 _ Q1).mono ?_
  rintro e w2 ⟨rfl, q1, E2, hP2, hR2⟩
  refine hK.out _ _ ⟨hHeld.1.keep E2.keep (Q1.apart hHeld.1 (by decide) (by decide) (by decide) (by decide) (by decide) (by decide)), hHeld.2.keep E2.keep (Q1.apart hHeld.2 (by decide) (by decide) (by decide) (by decide) (by decide) (by decide))⟩ (fun hHeld => ?_)
  clear hK K
  try simp only [Act.put, List.getElem_toArray, List.getElem_cons_succ, List.getElem_cons_zero, List.setIfInBounds_toArray, List.set_cons_zero, List.set_cons_succ]
  refine wpAnyH_take (i := 14) (v := ?_) rfl (by kernel_rfl) (by kernel_rfl) (by kernel_rfl) (fun _ _ _ h => h) (Or.inl ⟨by kernel_rfl, ?_⟩) hHeld ?_
  rotate_left
  · intro w' hSw; try dsimp only at hSw
    go_simp; try (with_reducible rfl)
  try simp only [Act.put, List.getElem_toArray, List.getElem_cons_succ, List.getElem_cons_zero, List.setIfInBounds_toArray, List.set_cons_zero, List.set_cons_succ]
  refine wpAnyH_take (i := 15) (v := ?_) rfl (by kernel_rfl) (by kernel_rfl) (by kernel_rfl) (fun _ _ _ h => h) (Or.inl ⟨by kernel_rfl, ?_⟩) hHeld ?_
  rotate_left
  · intro w' hSw; try dsimp only at hSw
    go_simp; try (with_reducible rfl)
  try simp only [Act.put, List.getElem_toArray, List.getElem_cons_succ, List.getElem_cons_zero, List.setIfInBounds_toArray, List.set_cons_zero, List.set_cons_succ]
  refine wpAnyH_done (by kernel_rfl) ?_ _
  refine NoPanic.normal ?_
  clear hHeld
  go_wp2
  go_ret
  obtain ⟨T2, hb2⟩ := T0.bothC (M := N + 1) A E2 (by rw [hP2, hP1]) (by rw [hD1]; exact hR2) (by rw [hP1, hD1]; exact hpi)
  exact ⟨ret_bool (by simp), c1, q1, T2, (BelC.of hb0.drew T.le).trans hb2, A.d, E2.g⟩
set_option linter.unusedSimpArgs false in
set_option linter.unusedVariables false in
set_option maxRecDepth 100000 in
set_option maxHeartbeats 4000000 in
theorem does_flush {B0 : Nat} {w : World} {tw : Nat} {c : CS} {q : QS} {N : Nat} (T : Twin B0 w tw c q N) (i : Int) (f : Nat) (cl : Int) (p : Option Addr) (n cc : Nat) (cut : Int) : Calls Tryz.prog 9 #[.pointer (some ⟨tw, 0, none⟩), .agg #[.int .i64 6, .int .i64 i, .int .u8 (f : Int), .int .i64 cl, .slice p n cc, .int .i64 cut]] w (DoesOk B0 tw c q N w) := by
  have hb0 := below_alloc w (.cells #[.int .i64 6, .int .i64 i, .int .u8 (f : Int), .int .i64 cl, .slice p n cc, .int .i64 cut] 42)
  have g3 := Blk.new' w 42 #[.int .i64 6, .int .i64 i, .int .u8 (f : Int), .int .i64 cl, .slice p n cc, .int .i64 cut]
  have T0 := T.below hb0.drew
  have tb := T0.tb
  have g3d := g3.drew
  have k0 := g3.cell' (i := 0) rfl
  have k2 := g3.cell' (i := 2) rfl
  have hbB := (hb0.drew).mono T.le
  obtain ⟨E, P1, D1, hpi, h1, h2⟩ := flush_two T0
  go_enter Tryz.func9, Tryz.ntmps9
  go_upto_region 20 with fail
  generalize w.alloc (.cells #[.int .i64 6, .int .i64 i, .int .u8 (f : Int), .int .i64 cl, .slice p n cc, .int .i64 cut] 42) = V at *
  refine wp_region_noPanic ?_
  refine wp_region_held_drew (S := (fun X => Blk X tw 39 [.pointer (some ⟨c.d, 0, none⟩), .pointer (some ⟨c.c, 0, none⟩), .pointer (some ⟨q.g, 0, none⟩), .pointer (some ⟨q.q, 0, none⟩)] ∧ Blk X w.heap.size 42 [.int .i64 6, .int .i64 i, .int .u8 (f : Int), .int .i64 cl, .slice p n cc, .int .i64 cut])) (by kernel_rfl) ⟨tb, g3d⟩ (fun hHeld => ?_)
  refine wpAnyH_take (i := 0) (v := ?_) rfl (by kernel_rfl) (by kernel_rfl) (by kernel_rfl) (fun _ _ _ h => h) (Or.inl ⟨by kernel_rfl, ?_⟩) hHeld ?_
  rotate_left
  · intro w' hSw; try dsimp only at hSw
    have d0 := hSw.1.cell' (i := 0) rfl
    have d1 := hSw.1.cell' (i := 1) rfl
    have d2 := hSw.1.cell' (i := 2) rfl
    have d3 := hSw.1.cell' (i := 3) rfl
    have u0 := hSw.2.cell' (i := 0) rfl
    have u1 := hSw.2.cell' (i := 1) rfl
    have u2 := hSw.2.cell' (i := 2) rfl
    have u3 := hSw.2.cell' (i := 3) rfl
    have u4 := hSw.2.cell' (i := 4) rfl
    have u5 := hSw.2.cell' (i := 5) rfl
    go_simp; try (with_reducible rfl)
  try simp only [Act.put, List.getElem_toArray, List.getElem_cons_succ, List.getElem_cons_zero, List.setIfInBounds_toArray, List.set_cons_zero, List.set_cons_succ]
  refine wpAnyH_take (i := 1) (v := ?_) rfl (by kernel_rfl) (by kernel_rfl) (by kernel_rfl) (fun _ _ _ h => h) (Or.inl ⟨by kernel_rfl, ?_⟩) hHeld ?_
  rotate_left
  · intro w' hSw; try dsimp only at hSw
    have d0 := hSw.1.cell' (i := 0) rfl
    have d1 := hSw.1.cell' (i := 1) rfl
    have d2 := hSw.1.cell' (i := 2) rfl
    have d3 := hSw.1.cell' (i := 3) rfl
    have u0 := hSw.2.cell' (i := 0) rfl
    have u1 := hSw.2.cell' (i := 1) rfl
    have u2 := hSw.2.cell' (i := 2) rfl
    have u3 := hSw.2.cell' (i := 3) rfl
    have u4 := hSw.2.cell' (i := 4) rfl
    have u5 := hSw.2.cell' (i := 5) rfl
    go_simp; try (with_reducible rfl)
  try simp only [Act.put, List.getElem_toArray, List.getElem_cons_succ, List.getElem_cons_zero, List.setIfInBounds_toArray, List.set_cons_zero, List.set_cons_succ]
  refine wpAnyH_take (i := 2) (v := ?_) rfl (by kernel_rfl) (by kernel_rfl) (by kernel_rfl) (fun _ _ _ h => h) (Or.inl ⟨by kernel_rfl, ?_⟩) hHeld ?_
  rotate_left
  · intro w' hSw; try dsimp only at hSw
    have d0 := hSw.1.cell' (i := 0) rfl
    have d1 := hSw.1.cell' (i := 1) rfl
    have d2 := hSw.1.cell' (i := 2) rfl
    have d3 := hSw.1.cell' (i := 3) rfl
    have u0 := hSw.2.cell' (i := 0) rfl
    have u1 := hSw.2.cell' (i := 1) rfl
    have u2 := hSw.2.cell' (i := 2) rfl
    have u3 := hSw.2.cell' (i := 3) rfl
    have u4 := hSw.2.cell' (i := 4) rfl
    have u5 := hSw.2.cell' (i := 5) rfl
    go_simp; try (with_reducible rfl)
  try simp only [Act.put, List.getElem_toArray, List.getElem_cons_succ, List.getElem_cons_zero, List.setIfInBounds_toArray, List.set_cons_zero, List.set_cons_succ]
  refine wpAnyH_take (i := 3) (v := ?_) rfl (by kernel_rfl) (by kernel_rfl) (by kernel_rfl) (fun _ _ _ h => h) (Or.inl ⟨by kernel_rfl, ?_⟩) hHeld ?_
  rotate_left
  · intro w' hSw; try dsimp only at hSw
    have d0 := hSw.1.cell' (i := 0) rfl
    have d1 := hSw.1.cell' (i := 1) rfl
    have d2 := hSw.1.cell' (i := 2) rfl
    have d3 := hSw.1.cell' (i := 3) rfl
    have u0 := hSw.2.cell' (i := 0) rfl
    have u1 := hSw.2.cell' (i := 1) rfl
    have u2 := hSw.2.cell' (i := 2) rfl
    have u3 := hSw.2.cell' (i := 3) rfl
    have u4 := hSw.2.cell' (i := 4) rfl
    have u5 := hSw.2.cell' (i := 5) rfl
    go_simp; try (with_reducible rfl)
  try simp only [Act.put, List.getElem_toArray, List.getElem_cons_succ, List.getElem_cons_zero, List.setIfInBounds_toArray, List.set_cons_zero, List.set_cons_succ]
  refine wpAnyH_take (i := 5) (v := ?_) rfl (by kernel_rfl) (by kernel_rfl) (by kernel_rfl) (fun _ _ _ h => h) (Or.inl ⟨by kernel_rfl, ?_⟩) hHeld ?_
  rotate_left
  · intro w' hSw; try dsimp only at hSw
    have d0 := hSw.1.cell' (i := 0) rfl
    have d1 := hSw.1.cell' (i := 1) rfl
    have d2 := hSw.1.cell' (i := 2) rfl
    have d3 := hSw.1.cell' (i := 3) rfl
    have u0 := hSw.2.cell' (i := 0) rfl
    have u1 := hSw.2.cell' (i := 1) rfl
    have u2 := hSw.2.cell' (i := 2) rfl
    have u3 := hSw.2.cell' (i := 3) rfl
    have u4 := hSw.2.cell' (i := 4) rfl
    have u5 := hSw.2.cell' (i := 5) rfl
    go_simp; try (with_reducible rfl)
  try simp only [Act.put, List.getElem_toArray, List.getElem_cons_succ, List.getElem_cons_zero, List.setIfInBounds_toArray, List.set_cons_zero, List.set_cons_succ]
  refine wpAnyH_take (i := 6) (v := ?_) rfl (by kernel_rfl) (by kernel_rfl) (by kernel_rfl) (fun _ _ _ h => h) (Or.inl ⟨by kernel_rfl, ?_⟩) hHeld ?_
  rotate_left
  · intro w' hSw; try dsimp only at hSw
    have d0 := hSw.1.cell' (i := 0) rfl
    have d1 := hSw.1.cell' (i := 1) rfl
    have d2 := hSw.1.cell' (i := 2) rfl
    have d3 := hSw.1.cell' (i := 3) rfl
    have u0 := hSw.2.cell' (i := 0) rfl
    have u1 := hSw.2.cell' (i := 1) rfl
    have u2 := hSw.2.cell' (i := 2) rfl
    have u3 := hSw.2.cell' (i := 3) rfl
    have u4 := hSw.2.cell' (i := 4) rfl
    have u5 := hSw.2.cell' (i := 5) rfl
    go_simp; try (with_reducible rfl)
  try simp only [Act.put, List.getElem_toArray, List.getElem_cons_succ, List.getElem_cons_zero, List.setIfInBounds_toArray, List.set_cons_zero, List.set_cons_succ]
  refine wpAnyH_take (i := 7) (v := ?_) rfl (by kernel_rfl) (by kernel_rfl) (by kernel_rfl) (fun _ _ _ h => h) (Or.inl ⟨by kernel_rfl, ?_⟩) hHeld ?_
  rotate_left
  · intro w' hSw; try dsimp only at hSw
    have d0 := hSw.1.cell' (i := 0) rfl
    have d1 := hSw.1.cell' (i := 1) rfl
    have d2 := hSw.1.cell' (i := 2) rfl
    have d3 := hSw.1.cell' (i := 3) rfl
    have u0 := hSw.2.cell' (i := 0) rfl
    have u1 := hSw.2.cell' (i := 1) rfl
    have u2 := hSw.2.cell' (i := 2) rfl
    have u3 := hSw.2.cell' (i := 3) rfl
    have u4 := hSw.2.cell' (i := 4) rfl
    have u5 := hSw.2.cell' (i := 5) rfl
    go_simp; try (with_reducible rfl)
  try simp only [Act.put, List.getElem_toArray, List.getElem_cons_succ, List.getElem_cons_zero, List.setIfInBounds_toArray, List.set_cons_zero, List.set_cons_succ]
  refine wpAnyH_take (i := 8) (v := ?_) rfl (by kernel_rfl) (by kernel_rfl) (by kernel_rfl) (fun _ _ _ h => h) (Or.inl ⟨by kernel_rfl, ?_⟩) hHeld ?_
  rotate_left
  · intro w' hSw; try dsimp only at hSw
    have d0 := hSw.1.cell' (i := 0) rfl
    have d1 := hSw.1.cell' (i := 1) rfl
    have d2 := hSw.1.cell' (i := 2) rfl
    have d3 := hSw.1.cell' (i := 3) rfl
    have u0 := hSw.2.cell' (i := 0) rfl
    have u1 := hSw.2.cell' (i := 1) rfl
    have u2 := hSw.2.cell' (i := 2) rfl
    have u3 := hSw.2.cell' (i := 3) rfl
    have u4 := hSw.2.cell' (i := 4) rfl
    have u5 := hSw.2.cell' (i := 5) rfl
    go_simp; try (with_reducible rfl)
  try simp only [Act.put, List.getElem_toArray, List.getElem_cons_succ, List.getElem_cons_zero, List.setIfInBounds_toArray, List.set_cons_zero, List.set_cons_succ]
  refine wpAnyH_ready (rs := [4]) (by kernel_rfl) (by simp) ?_
  refine AllReadyH.cons rfl (fun K hK => ?_) AllReadyH.nil
  go_simp
  refine h1.mono ?_
  rintro e w1 ⟨rfl, c1, A, hP1, hD1⟩
  have Q1 := T0.Q.keepC T0.C A.keep
  refine hK.out _ _ ⟨A.blk T0.C hHeld.1 (by decide) (by decide) (by decide) (by decide), A.blk T0.C hHeld.2 (by decide) (by decide) (by decide) (by decide)⟩ (fun hHeld => ?_)
  clear hK K
  try simp only [Act.put, List.getElem_toArray, List.getElem_cons_succ, List.getElem_cons_zero, List.setIfInBounds_toArray, List.set_cons_zero, List.set_cons_succ]
  refine wpAnyH_ready (rs := [9]) (by kernel_rfl) (by simp) ?_
  refine AllReadyH.cons rfl (fun K hK => ?_) AllReadyH.nil
  go_simp
  refine (h2 _ Q1).mono ?_
  rintro e w2 ⟨rfl, q1, E2, hP2, hR2⟩
  refine hK.out _ _ ⟨hHeld.1.keep E2.keep (Q1.apart hHeld.1 (by decide) (by decide) (by decide) (by decide) (by decide) (by decide)), hHeld.2.keep E2.keep (Q1.apart hHeld.2 (by decide) (by decide) (by decide) (by decide) (by decide) (by decide))⟩ (fun hHeld => ?_)
  clear hK K
  try simp only [Act.put, List.getElem_toArray, List.getElem_cons_succ, List.getElem_cons_zero, List.setIfInBounds_toArray, List.set_cons_zero, List.set_cons_succ]
  refine wpAnyH_take (i := 10) (v := ?_) rfl (by kernel_rfl) (by kernel_rfl) (by kernel_rfl) (fun _ _ _ h => h) (Or.inl ⟨by kernel_rfl, ?_⟩) hHeld ?_
  rotate_left
  · intro w' hSw; try dsimp only at hSw
    go_simp; try (with_reducible rfl)
  try simp only [Act.put, List.getElem_toArray, List.getElem_cons_succ, List.getElem_cons_zero, List.setIfInBounds_toArray, List.set_cons_zero, List.set_cons_succ]
  refine wpAnyH_take (i := 11) (v := ?_) rfl (by kernel_rfl) (by kernel_rfl) (by kernel_rfl) (fun _ _ _ h => h) (Or.inl ⟨by kernel_rfl, ?_⟩) hHeld ?_
  rotate_left
  · intro w' hSw; try dsimp only at hSw
    go_simp; try (with_reducible rfl)
  try simp only [Act.put, List.getElem_toArray, List.getElem_cons_succ, List.getElem_cons_zero, List.setIfInBounds_toArray, List.set_cons_zero, List.set_cons_succ]
  refine wpAnyH_done (by kernel_rfl) ?_ _
  refine NoPanic.normal ?_
  clear hHeld
  go_wp2
  go_ret
  obtain ⟨T2, hb2⟩ := T0.bothC (M := N + 1) A E2 (by rw [hP2, hP1]) (by rw [hD1]; exact hR2) (by rw [hP1, hD1]; exact hpi)
  exact ⟨ret_bool (by simp), c1, q1, T2, (BelC.of hb0.drew T.le).trans hb2, A.d, E2.g⟩
set_option linter.unusedSimpArgs false in
set_option linter.unusedVariables false in
set_option maxRecDepth 100000 in
set_option maxHeartbeats 4000000 in
theorem does_forget {B0 : Nat} {w : World} {tw : Nat} {c : CS} {q : QS} {N : Nat} (T : Twin B0 w tw c q N) (i : Int) (f : Nat) (cl : Int) (p : Option Addr) (n cc : Nat) (cut : Int) (xs : List Int) (hI : InI w p n cc xs) (hlow : ∀ a, p = some a → 0 < n → a.block < B0) : Calls Tryz.prog 9 #[.pointer (some ⟨tw, 0, none⟩), .agg #[.int .i64 7, .int .i64 i, .int .u8 (f : Int), .int .i64 cl, .slice p n cc, .int .i64 cut]] w (DoesOk B0 tw c q N w) := by
  have hb0 := below_alloc w (.cells #[.int .i64 7, .int .i64 i, .int .u8 (f : Int), .int .i64 cl, .slice p n cc, .int .i64 cut] 42)
  have g3 := Blk.new' w 42 #[.int .i64 7, .int .i64 i, .int .u8 (f : Int), .int .i64 cl, .slice p n cc, .int .i64 cut]
  have T0 := T.below hb0.drew
  have tb := T0.tb
  have g3d := g3.drew
  have k0 := g3.cell' (i := 0) rfl
  have k2 := g3.cell' (i := 2) rfl
  have hbB := (hb0.drew).mono T.le
  have hI0 := hI.lowB hlow hbB
  obtain ⟨E, P1, D1, hpi, h1, h2⟩ := forget_two T0 p n cc xs hI0 hlow
  go_enter Tryz.func9, Tryz.ntmps9
  go_upto_region 22 with fail
  generalize w.alloc (.cells #[.int .i64 7, .int .i64 i, .int .u8 (f : Int), .int .i64 cl, .slice p n cc, .int .i64 cut] 42) = V at *
  refine wp_region_noPanic ?_
  refine wp_region_held_drew (S := (fun X => Blk X tw 39 [.pointer (some ⟨c.d, 0, none⟩), .pointer (some ⟨c.c, 0, none⟩), .pointer (some ⟨q.g, 0, none⟩), .pointer (some ⟨q.q, 0, none⟩)] ∧ Blk X w.heap.size 42 [.int .i64 7, .int .i64 i, .int .u8 (f : Int), .int .i64 cl, .slice p n cc, .int .i64 cut])) (by kernel_rfl) ⟨tb, g3d⟩ (fun hHeld => ?_)
  refine wpAnyH_take (i := 0) (v := ?_) rfl (by kernel_rfl) (by kernel_rfl) (by kernel_rfl) (fun _ _ _ h => h) (Or.inl ⟨by kernel_rfl, ?_⟩) hHeld ?_
  rotate_left
  · intro w' hSw; try dsimp only at hSw
    have d0 := hSw.1.cell' (i := 0) rfl
    have d1 := hSw.1.cell' (i := 1) rfl
    have d2 := hSw.1.cell' (i := 2) rfl
    have d3 := hSw.1.cell' (i := 3) rfl
    have u0 := hSw.2.cell' (i := 0) rfl
    have u1 := hSw.2.cell' (i := 1) rfl
    have u2 := hSw.2.cell' (i := 2) rfl
    have u3 := hSw.2.cell' (i := 3) rfl
    have u4 := hSw.2.cell' (i := 4) rfl
    have u5 := hSw.2.cell' (i := 5) rfl
    go_simp; try (with_reducible rfl)
  try simp only [Act.put, List.getElem_toArray, List.getElem_cons_succ, List.getElem_cons_zero, List.setIfInBounds_toArray, List.set_cons_zero, List.set_cons_succ]
  refine wpAnyH_take (i := 1) (v := ?_) rfl (by kernel_rfl) (by kernel_rfl) (by kernel_rfl) (fun _ _ _ h => h) (Or.inl ⟨by kernel_rfl, ?_⟩) hHeld ?_
  rotate_left
  · intro w' hSw; try dsimp only at hSw
    have d0 := hSw.1.cell' (i := 0) rfl
    have d1 := hSw.1.cell' (i := 1) rfl
    have d2 := hSw.1.cell' (i := 2) rfl
    have d3 := hSw.1.cell' (i := 3) rfl
    have u0 := hSw.2.cell' (i := 0) rfl
    have u1 := hSw.2.cell' (i := 1) rfl
    have u2 := hSw.2.cell' (i := 2) rfl
    have u3 := hSw.2.cell' (i := 3) rfl
    have u4 := hSw.2.cell' (i := 4) rfl
    have u5 := hSw.2.cell' (i := 5) rfl
    go_simp; try (with_reducible rfl)
  try simp only [Act.put, List.getElem_toArray, List.getElem_cons_succ, List.getElem_cons_zero, List.setIfInBounds_toArray, List.set_cons_zero, List.set_cons_succ]
  refine wpAnyH_take (i := 2) (v := ?_) rfl (by kernel_rfl) (by kernel_rfl) (by kernel_rfl) (fun _ _ _ h => h) (Or.inl ⟨by kernel_rfl, ?_⟩) hHeld ?_
  rotate_left
  · intro w' hSw; try dsimp only at hSw
    have d0 := hSw.1.cell' (i := 0) rfl
    have d1 := hSw.1.cell' (i := 1) rfl
    have d2 := hSw.1.cell' (i := 2) rfl
    have d3 := hSw.1.cell' (i := 3) rfl
    have u0 := hSw.2.cell' (i := 0) rfl
    have u1 := hSw.2.cell' (i := 1) rfl
    have u2 := hSw.2.cell' (i := 2) rfl
    have u3 := hSw.2.cell' (i := 3) rfl
    have u4 := hSw.2.cell' (i := 4) rfl
    have u5 := hSw.2.cell' (i := 5) rfl
    go_simp; try (with_reducible rfl)
  try simp only [Act.put, List.getElem_toArray, List.getElem_cons_succ, List.getElem_cons_zero, List.setIfInBounds_toArray, List.set_cons_zero, List.set_cons_succ]
  refine wpAnyH_take (i := 3) (v := ?_) rfl (by kernel_rfl) (by kernel_rfl) (by kernel_rfl) (fun _ _ _ h => h) (Or.inl ⟨by kernel_rfl, ?_⟩) hHeld ?_
  rotate_left
  · intro w' hSw; try dsimp only at hSw
    have d0 := hSw.1.cell' (i := 0) rfl
    have d1 := hSw.1.cell' (i := 1) rfl
    have d2 := hSw.1.cell' (i := 2) rfl
    have d3 := hSw.1.cell' (i := 3) rfl
    have u0 := hSw.2.cell' (i := 0) rfl
    have u1 := hSw.2.cell' (i := 1) rfl
    have u2 := hSw.2.cell' (i := 2) rfl
    have u3 := hSw.2.cell' (i := 3) rfl
    have u4 := hSw.2.cell' (i := 4) rfl
    have u5 := hSw.2.cell' (i := 5) rfl
    go_simp; try (with_reducible rfl)
  try simp only [Act.put, List.getElem_toArray, List.getElem_cons_succ, List.getElem_cons_zero, List.setIfInBounds_toArray, List.set_cons_zero, List.set_cons_succ]
  refine wpAnyH_take (i := 4) (v := ?_) rfl (by kernel_rfl) (by kernel_rfl) (by kernel_rfl) (fun _ _ _ h => h) (Or.inl ⟨by kernel_rfl, ?_⟩) hHeld ?_
  rotate_left
  · intro w' hSw; try dsimp only at hSw
    have d0 := hSw.1.cell' (i := 0) rfl
    have d1 := hSw.1.cell' (i := 1) rfl
    have d2 := hSw.1.cell' (i := 2) rfl
    have d3 := hSw.1.cell' (i := 3) rfl
    have u0 := hSw.2.cell' (i := 0) rfl
    have u1 := hSw.2.cell' (i := 1) rfl
    have u2 := hSw.2.cell' (i := 2) rfl
    have u3 := hSw.2.cell' (i := 3) rfl
    have u4 := hSw.2.cell' (i := 4) rfl
    have u5 := hSw.2.cell' (i := 5) rfl
    go_simp; try (with_reducible rfl)
  try simp only [Act.put, List.getElem_toArray, List.getElem_cons_succ, List.getElem_cons_zero, List.setIfInBounds_toArray, List.set_cons_zero, List.set_cons_succ]
  refine wpAnyH_take (i := 5) (v := ?_) rfl (by kernel_rfl) (by kernel_rfl) (by kernel_rfl) (fun _ _ _ h => h) (Or.inl ⟨by kernel_rfl, ?_⟩) hHeld ?_
  rotate_left
  · intro w' hSw; try dsimp only at hSw
    have d0 := hSw.1.cell' (i := 0) rfl
    have d1 := hSw.1.cell' (i := 1) rfl
    have d2 := hSw.1.cell' (i := 2) rfl
    have d3 := hSw.1.cell' (i := 3) rfl
    have u0 := hSw.2.cell' (i := 0) rfl
    have u1 := hSw.2.cell' (i := 1) rfl
    have u2 := hSw.2.cell' (i := 2) rfl
    have u3 := hSw.2.cell' (i := 3) rfl
    have u4 := hSw.2.cell' (i := 4) rfl
    have u5 := hSw.2.cell' (i := 5) rfl
    go_simp; try (with_reducible rfl)
  try simp only [Act.put, List.getElem_toArray, List.getElem_cons_succ, List.getElem_cons_zero, List.setIfInBounds_toArray, List.set_cons_zero, List.set_cons_succ]
  refine wpAnyH_take (i := 7) (v := ?_) rfl (by kernel_rfl) (by kernel_rfl) (by kernel_rfl) (fun _ _ _ h => h) (Or.inl ⟨by kernel_rfl, ?_⟩) hHeld ?_
  rotate_left
  · intro w' hSw; try dsimp only at hSw
    have d0 := hSw.1.cell' (i := 0) rfl
    have d1 := hSw.1.cell' (i := 1) rfl
    have d2 := hSw.1.cell' (i := 2) rfl
    have d3 := hSw.1.cell' (i := 3) rfl
    have u0 := hSw.2.cell' (i := 0) rfl
    have u1 := hSw.2.cell' (i := 1) rfl
    have u2 := hSw.2.cell' (i := 2) rfl
    have u3 := hSw.2.cell' (i := 3) rfl
    have u4 := hSw.2.cell' (i := 4) rfl
    have u5 := hSw.2.cell' (i := 5) rfl
    go_simp; try (with_reducible rfl)
  try simp only [Act.put, List.getElem_toArray, List.getElem_cons_succ, List.getElem_cons_zero, List.setIfInBounds_toArray, List.set_cons_zero, List.set_cons_succ]
  refine wpAnyH_take (i := 8) (v := ?_) rfl (by kernel_rfl) (by kernel_rfl) (by kernel_rfl) (fun _ _ _ h => h) (Or.inl ⟨by kernel_rfl, ?_⟩) hHeld ?_
  rotate_left
  · intro w' hSw; try dsimp only at hSw
    have d0 := hSw.1.cell' (i := 0) rfl
    have d1 := hSw.1.cell' (i := 1) rfl
    have d2 := hSw.1.cell' (i := 2) rfl
    have d3 := hSw.1.cell' (i := 3) rfl
    have u0 := hSw.2.cell' (i := 0) rfl
    have u1 := hSw.2.cell' (i := 1) rfl
    have u2 := hSw.2.cell' (i := 2) rfl
    have u3 := hSw.2.cell' (i := 3) rfl
    have u4 := hSw.2.cell' (i := 4) rfl
    have u5 := hSw.2.cell' (i := 5) rfl
    go_simp; try (with_reducible rfl)
  try simp only [Act.put, List.getElem_toArray, List.getElem_cons_succ, List.getElem_cons_zero, List.setIfInBounds_toArray, List.set_cons_zero, List.set_cons_succ]
  refine wpAnyH_take (i := 9) (v := ?_) rfl (by kernel_rfl) (by kernel_rfl) (by kernel_rfl) (fun _ _ _ h => h) (Or.inl ⟨by kernel_rfl, ?_⟩) hHeld ?_
  rotate_left
  · intro w' hSw; try dsimp only at hSw
    have d0 := hSw.1.cell' (i := 0) rfl
    have d1 := hSw.1.cell' (i := 1) rfl
    have d2 := hSw.1.cell' (i := 2) rfl
    have d3 := hSw.1.cell' (i := 3) rfl
    have u0 := hSw.2.cell' (i := 0) rfl
    have u1 := hSw.2.cell' (i := 1) rfl
    have u2 := hSw.2.cell' (i := 2) rfl
    have u3 := hSw.2.cell' (i := 3) rfl
    have u4 := hSw.2.cell' (i := 4) rfl
    have u5 := hSw.2.cell' (i := 5) rfl
    go_simp; try (with_reducible rfl)
  try simp only [Act.put, List.getElem_toArray, List.getElem_cons_succ, List.getElem_cons_zero, List.setIfInBounds_toArray, List.set_cons_zero, List.set_cons_succ]
  refine wpAnyH_take (i := 10) (v := ?_) rfl (by kernel_rfl) (by kernel_rfl) (by kernel_rfl) (fun _ _ _ h => h) (Or.inl ⟨by kernel_rfl, ?_⟩) hHeld ?_
  rotate_left
  · intro w' hSw; try dsimp only at hSw
    have d0 := hSw.1.cell' (i := 0) rfl
    have d1 := hSw.1.cell' (i := 1) rfl
    have d2 := hSw.1.cell' (i := 2) rfl
    have d3 := hSw.1.cell' (i := 3) rfl
    have u0 := hSw.2.cell' (i := 0) rfl
    have u1 := hSw.2.cell' (i := 1) rfl
    have u2 := hSw.2.cell' (i := 2) rfl
    have u3 := hSw.2.cell' (i := 3) rfl
    have u4 := hSw.2.cell' (i := 4) rfl
    have u5 := hSw.2.cell' (i := 5) rfl
    go_simp; try (with_reducible rfl)
  try simp only [Act.put, List.getElem_toArray, List.getElem_cons_succ, List.getElem_cons_zero, List.setIfInBounds_toArray, List.set_cons_zero, List.set_cons_succ]
  refine wpAnyH_take (i := 11) (v := ?_) rfl (by kernel_rfl) (by kernel_rfl) (by kernel_rfl) (fun _ _ _ h => h) (Or.inl ⟨by kernel_rfl, ?_⟩) hHeld ?_
  rotate_left
  · intro w' hSw; try dsimp only at hSw
    have d0 := hSw.1.cell' (i := 0) rfl
    have d1 := hSw.1.cell' (i := 1) rfl
    have d2 := hSw.1.cell' (i := 2) rfl
    have d3 := hSw.1.cell' (i := 3) rfl
    have u0 := hSw.2.cell' (i := 0) rfl
    have u1 := hSw.2.cell' (i := 1) rfl
    have u2 := hSw.2.cell' (i := 2) rfl
    have u3 := hSw.2.cell' (i := 3) rfl
    have u4 := hSw.2.cell' (i := 4) rfl
    have u5 := hSw.2.cell' (i := 5) rfl
    go_simp; try (with_reducible rfl)
  try simp only [Act.put, List.getElem_toArray, List.getElem_cons_succ, List.getElem_cons_zero, List.setIfInBounds_toArray, List.set_cons_zero, List.set_cons_succ]
  refine wpAnyH_take (i := 12) (v := ?_) rfl (by kernel_rfl) (by kernel_rfl) (by kernel_rfl) (fun _ _ _ h => h) (Or.inl ⟨by kernel_rfl, ?_⟩) hHeld ?_
  rotate_left
  · intro w' hSw; try dsimp only at hSw
    have d0 := hSw.1.cell' (i := 0) rfl
    have d1 := hSw.1.cell' (i := 1) rfl
    have d2 := hSw.1.cell' (i := 2) rfl
    have d3 := hSw.1.cell' (i := 3) rfl
    have u0 := hSw.2.cell' (i := 0) rfl
    have u1 := hSw.2.cell' (i := 1) rfl
    have u2 := hSw.2.cell' (i := 2) rfl
    have u3 := hSw.2.cell' (i := 3) rfl
    have u4 := hSw.2.cell' (i := 4) rfl
    have u5 := hSw.2.cell' (i := 5) rfl
    go_simp; try (with_reducible rfl)
  try simp only [Act.put, List.getElem_toArray, List.getElem_cons_succ, List.getElem_cons_zero, List.setIfInBounds_toArray, List.set_cons_zero, List.set_cons_succ]
  refine wpAnyH_ready (rs := [6]) (by kernel_rfl) (by simp) ?_
  refine AllReadyH.cons rfl (fun K hK => ?_) AllReadyH.nil
  go_simp
  refine h1.mono ?_
  rintro e w1 ⟨rfl, c1, A, hP1, hD1⟩
  have Q1 := T0.Q.keepC T0.C A.keep
  refine hK.out _ _ ⟨A.blk T0.C hHeld.1 (by decide) (by decide) (by decide) (by decide), A.blk T0.C hHeld.2 (by decide) (by decide) (by decide) (by decide)⟩ (fun hHeld => ?_)
  clear hK K
  try simp only [Act.put, List.getElem_toArray, List.getElem_cons_succ, List.getElem_cons_zero, List.setIfInBounds_toArray, List.set_cons_zero, List.set_cons_succ]
  have hI1 := hI0.lowB hlow (A.belowB T0.le T0.fc)
  refine wpAnyH_ready (rs := [13]) (by kernel_rfl) (by simp) ?_
  refine AllReadyH.cons rfl (fun K hK => ?_) AllReadyH.nil
  go_simp
  refine (h2 _ Q1 hI1).mono ?_
  rintro e w2 ⟨rfl, q1, E2, hP2, hR2⟩
  refine hK.out _ _ ⟨hHeld.1.keep E2.keep (Q1.apart hHeld.1 (by decide) (by decide) (by decide) (by decide) (by decide) (by decide)), hHeld.2.keep E2.keep (Q1.apart hHeld.2 (by decide) (by decide) (by decide) (by decide) (by decide) (by decide))⟩ (fun hHeld => ?_)
  clear hK K
  try simp only [Act.put, List.getElem_toArray, List.getElem_cons_succ, List.getElem_cons_zero, List.setIfInBounds_toArray, List.set_cons_zero, List.set_cons_succ]
  refine wpAnyH_take (i := 14) (v := ?_) rfl (by kernel_rfl) (by kernel_rfl) (by kernel_rfl) (fun _ _ _ h => h) (Or.inl ⟨by kernel_rfl, ?_⟩) hHeld ?_
  rotate_left
  · intro w' hSw; try dsimp only at hSw
    go_simp; try (with_reducible rfl)
  try simp only [Act.put, List.getElem_toArray, List.getElem_cons_succ, List.getElem_cons_zero, List.setIfInBounds_toArray, List.set_cons_zero, List.set_cons_succ]
  refine wpAnyH_take (i := 15) (v := ?_) rfl (by kernel_rfl) (by kernel_rfl) (by kernel_rfl) (fun _ _ _ h => h) (Or.inl ⟨by kernel_rfl, ?_⟩) hHeld ?_
  rotate_left
  · intro w' hSw; try dsimp only at hSw
    go_simp; try (with_reducible rfl)
  try simp only [Act.put, List.getElem_toArray, List.getElem_cons_succ, List.getElem_cons_zero, List.setIfInBounds_toArray, List.set_cons_zero, List.set_cons_succ]
  refine wpAnyH_done (by kernel_rfl) ?_ _
  refine NoPanic.normal ?_
  clear hHeld
  go_wp2
  go_ret
  obtain ⟨T2, hb2⟩ := T0.bothC (M := N + 1) A E2 (by rw [hP2, hP1]) (by rw [hD1]; exact hR2) (by rw [hP1, hD1]; exact hpi)
  exact ⟨ret_bool (by simp), c1, q1, T2, (BelC.of hb0.drew T.le).trans hb2, A.d, E2.g⟩
set_option linter.unusedSimpArgs false in
set_option linter.unusedVariables false in
set_option maxRecDepth 100000 in
set_option maxHeartbeats 4000000 in
theorem does_hurt {B0 : Nat} {w : World} {tw : Nat} {c : CS} {q : QS} {N : Nat} (T : Twin B0 w tw c q N) (i : Int) (f : Nat) (cl : Int) (p : Option Addr) (n cc : Nat) (cut : Int) : Calls Tryz.prog 9 #[.pointer (some ⟨tw, 0, none⟩), .agg #[.int .i64 9, .int .i64 i, .int .u8 (f : Int), .int .i64 cl, .slice p n cc, .int .i64 cut]] w (DoesOk B0 tw c q N w) := by
  have hb0 := below_alloc w (.cells #[.int .i64 9, .int .i64 i, .int .u8 (f : Int), .int .i64 cl, .slice p n cc, .int .i64 cut] 42)
  have g3 := Blk.new' w 42 #[.int .i64 9, .int .i64 i, .int .u8 (f : Int), .int .i64 cl, .slice p n cc, .int .i64 cut]
  have T0 := T.below hb0.drew
  have tb := T0.tb
  have g3d := g3.drew
  have k0 := g3.cell' (i := 0) rfl
  have k2 := g3.cell' (i := 2) rfl
  have hbB := (hb0.drew).mono T.le
  obtain ⟨E, P1, D1, hpi, h1, h2⟩ := hurt_two T0 i
  go_enter Tryz.func9, Tryz.ntmps9
  go_upto_region 29 with fail
  generalize w.alloc (.cells #[.int .i64 9, .int .i64 i, .int .u8 (f : Int), .int .i64 cl, .slice p n cc, .int .i64 cut] 42) = V at *
  refine wp_region_noPanic ?_
  refine wp_region_held_drew (S := (fun X => Blk X tw 39 [.pointer (some ⟨c.d, 0, none⟩), .pointer (some ⟨c.c, 0, none⟩), .pointer (some ⟨q.g, 0, none⟩), .pointer (some ⟨q.q, 0, none⟩)] ∧ Blk X w.heap.size 42 [.int .i64 9, .int .i64 i, .int .u8 (f : Int), .int .i64 cl, .slice p n cc, .int .i64 cut])) (by kernel_rfl) ⟨tb, g3d⟩ (fun hHeld => ?_)
  refine wpAnyH_take (i := 0) (v := ?_) rfl (by kernel_rfl) (by kernel_rfl) (by kernel_rfl) (fun _ _ _ h => h) (Or.inl ⟨by kernel_rfl, ?_⟩) hHeld ?_
  rotate_left
  · intro w' hSw; try dsimp only at hSw
    have d0 := hSw.1.cell' (i := 0) rfl
    have d1 := hSw.1.cell' (i := 1) rfl
    have d2 := hSw.1.cell' (i := 2) rfl
    have d3 := hSw.1.cell' (i := 3) rfl
    have u0 := hSw.2.cell' (i := 0) rfl
    have u1 := hSw.2.cell' (i := 1) rfl
    have u2 := hSw.2.cell' (i := 2) rfl
    have u3 := hSw.2.cell' (i := 3) rfl
    have u4 := hSw.2.cell' (i := 4) rfl
    have u5 := hSw.2.cell' (i := 5) rfl
    go_simp; try (with_reducible rfl)
  try simp only [Act.put, List.getElem_toArray, List.getElem_cons_succ, List.getElem_cons_zero, List.setIfInBounds_toArray, List.set_cons_zero, List.set_cons_succ]
  refine wpAnyH_take (i := 1) (v := ?_) rfl (by kernel_rfl) (by kernel_rfl) (by kernel_rfl) (fun _ _ _ h => h) (Or.inl ⟨by kernel_rfl, ?_⟩) hHeld ?_
  rotate_left
  · intro w' hSw; try dsimp only at hSw
    have d0 := hSw.1.cell' (i := 0) rfl
    have d1 := hSw.1.cell' (i := 1) rfl
    have d2 := hSw.1.cell' (i := 2) rfl
    have d3 := hSw.1.cell' (i := 3) rfl
    have u0 := hSw.2.cell' (i := 0) rfl
    have u1 := hSw.2.cell' (i := 1) rfl
    have u2 := hSw.2.cell' (i := 2) rfl
    have u3 := hSw.2.cell' (i := 3) rfl
    have u4 := hSw.2.cell' (i := 4) rfl
    have u5 := hSw.2.cell' (i := 5) rfl
    go_simp; try (with_reducible rfl)
  try simp only [Act.put, List.getElem_toArray, List.getElem_cons_succ, List.getElem_cons_zero, List.setIfInBounds_toArray, List.set_cons_zero, List.set_cons_succ]
  refine wpAnyH_take (i := 2) (v := ?_) rfl (by kernel_rfl) (by kernel_rfl) (by kernel_rfl) (fun _ _ _ h => h) (Or.inl ⟨by kernel_rfl, ?_⟩) hHeld ?_
  rotate_left
  · intro w' hSw; try dsimp only at hSw
    have d0 := hSw.1.cell' (i := 0) rfl
    have d1 := hSw.1.cell' (i := 1) rfl
    have d2 := hSw.1.cell' (i := 2) rfl
    have d3 := hSw.1.cell' (i := 3) rfl
    have u0 := hSw.2.cell' (i := 0) rfl
    have u1 := hSw.2.cell' (i := 1) rfl
    have u2 := hSw.2.cell' (i := 2) rfl
    have u3 := hSw.2.cell' (i := 3) rfl
    have u4 := hSw.2.cell' (i := 4) rfl
    have u5 := hSw.2.cell' (i := 5) rfl
    go_simp; try (with_reducible rfl)
  try simp only [Act.put, List.getElem_toArray, List.getElem_cons_succ, List.getElem_cons_zero, List.setIfInBounds_toArray, List.set_cons_zero, List.set_cons_succ]
  refine wpAnyH_take (i := 3) (v := ?_) rfl (by kernel_rfl) (by kernel_rfl) (by kernel_rfl) (fun _ _ _ h => h) (Or.inl ⟨by kernel_rfl, ?_⟩) hHeld ?_
  rotate_left
  · intro w' hSw; try dsimp only at hSw
    have d0 := hSw.1.cell' (i := 0) rfl
    have d1 := hSw.1.cell' (i := 1) rfl
    have d2 := hSw.1.cell' (i := 2) rfl
    have d3 := hSw.1.cell' (i := 3) rfl
    have u0 := hSw.2.cell' (i := 0) rfl
    have u1 := hSw.2.cell' (i := 1) rfl
    have u2 := hSw.2.cell' (i := 2) rfl
    have u3 := hSw.2.cell' (i := 3) rfl
    have u4 := hSw.2.cell' (i := 4) rfl
    have u5 := hSw.2.cell' (i := 5) rfl
    go_simp; try (with_reducible rfl)
  try simp only [Act.put, List.getElem_toArray, List.getElem_cons_succ, List.getElem_cons_zero, List.setIfInBounds_toArray, List.set_cons_zero, List.set_cons_succ]
  refine wpAnyH_take (i := 4) (v := ?_) rfl (by kernel_rfl) (by kernel_rfl) (by kernel_rfl) (fun _ _ _ h => h) (Or.inl ⟨by kernel_rfl, ?_⟩) hHeld ?_
  rotate_left
  · intro w' hSw; try dsimp only at hSw
    have d0 := hSw.1.cell' (i := 0) rfl
    have d1 := hSw.1.cell' (i := 1) rfl
    have d2 := hSw.1.cell' (i := 2) rfl
    have d3 := hSw.1.cell' (i := 3) rfl
    have u0 := hSw.2.cell' (i := 0) rfl
    have u1 := hSw.2.cell' (i := 1) rfl
    have u2 := hSw.2.cell' (i := 2) rfl
    have u3 := hSw.2.cell' (i := 3) rfl
    have u4 := hSw.2.cell' (i := 4) rfl
    have u5 := hSw.2.cell' (i := 5) rfl
    go_simp; try (with_reducible rfl)
  try simp only [Act.put, List.getElem_toArray, List.getElem_cons_succ, List.getElem_cons_zero, List.setIfInBounds_toArray, List.set_cons_zero, List.set_cons_succ]
  refine wpAnyH_take (i := 5) (v := ?_) rfl (by kernel_rfl) (by kernel_rfl) (by kernel_rfl) (fun _ _ _ h => h) (Or.inl ⟨by kernel_rfl, ?_⟩) hHeld ?_
  rotate_left
  · intro w' hSw; try dsimp only at hSw
    have d0 := hSw.1.cell' (i := 0) rfl
    have d1 := hSw.1.cell' (i := 1) rfl
    have d2 := hSw.1.cell' (i := 2) rfl
    have d3 := hSw.1.cell' (i := 3) rfl
    have u0 := hSw.2.cell' (i := 0) rfl
    have u1 := hSw.2.cell' (i := 1) rfl
    have u2 := hSw.2.cell' (i := 2) rfl
    have u3 := hSw.2.cell' (i := 3) rfl
    have u4 := hSw.2.cell' (i := 4) rfl
    have u5 := hSw.2.cell' (i := 5) rfl
    go_simp; try (with_reducible rfl)
  try simp only [Act.put, List.getElem_toArray, List.getElem_cons_succ, List.getElem_cons_zero, List.setIfInBounds_toArray, List.set_cons_zero, List.set_cons_succ]
  refine wpAnyH_take (i := 7) (v := ?_) rfl (by kernel_rfl) (by kernel_rfl) (by kernel_rfl) (fun _ _ _ h => h) (Or.inl ⟨by kernel_rfl, ?_⟩) hHeld ?_
  rotate_left
  · intro w' hSw; try dsimp only at hSw
    have d0 := hSw.1.cell' (i := 0) rfl
    have d1 := hSw.1.cell' (i := 1) rfl
    have d2 := hSw.1.cell' (i := 2) rfl
    have d3 := hSw.1.cell' (i := 3) rfl
    have u0 := hSw.2.cell' (i := 0) rfl
    have u1 := hSw.2.cell' (i := 1) rfl
    have u2 := hSw.2.cell' (i := 2) rfl
    have u3 := hSw.2.cell' (i := 3) rfl
    have u4 := hSw.2.cell' (i := 4) rfl
    have u5 := hSw.2.cell' (i := 5) rfl
    go_simp; try (with_reducible rfl)
  try simp only [Act.put, List.getElem_toArray, List.getElem_cons_succ, List.getElem_cons_zero, List.setIfInBounds_toArray, List.set_cons_zero, List.set_cons_succ]
  refine wpAnyH_take (i := 8) (v := ?_) rfl (by kernel_rfl) (by kernel_rfl) (by kernel_rfl) (fun _ _ _ h => h) (Or.inl ⟨by kernel_rfl, ?_⟩) hHeld ?_
  rotate_left
  · intro w' hSw; try dsimp only at hSw
    have d0 := hSw.1.cell' (i := 0) rfl
    have d1 := hSw.1.cell' (i := 1) rfl
    have d2 := hSw.1.cell' (i := 2) rfl
    have d3 := hSw.1.cell' (i := 3) rfl
    have u0 := hSw.2.cell' (i := 0) rfl
    have u1 := hSw.2.cell' (i := 1) rfl
    have u2 := hSw.2.cell' (i := 2) rfl
    have u3 := hSw.2.cell' (i := 3) rfl
    have u4 := hSw.2.cell' (i := 4) rfl
    have u5 := hSw.2.cell' (i := 5) rfl
    go_simp; try (with_reducible rfl)
  try simp only [Act.put, List.getElem_toArray, List.getElem_cons_succ, List.getElem_cons_zero, List.setIfInBounds_toArray, List.set_cons_zero, List.set_cons_succ]
  refine wpAnyH_take (i := 9) (v := ?_) rfl (by kernel_rfl) (by kernel_rfl) (by kernel_rfl) (fun _ _ _ h => h) (Or.inl ⟨by kernel_rfl, ?_⟩) hHeld ?_
  rotate_left
  · intro w' hSw; try dsimp only at hSw
    have d0 := hSw.1.cell' (i := 0) rfl
    have d1 := hSw.1.cell' (i := 1) rfl
    have d2 := hSw.1.cell' (i := 2) rfl
    have d3 := hSw.1.cell' (i := 3) rfl
    have u0 := hSw.2.cell' (i := 0) rfl
    have u1 := hSw.2.cell' (i := 1) rfl
    have u2 := hSw.2.cell' (i := 2) rfl
    have u3 := hSw.2.cell' (i := 3) rfl
    have u4 := hSw.2.cell' (i := 4) rfl
    have u5 := hSw.2.cell' (i := 5) rfl
    go_simp; try (with_reducible rfl)
  try simp only [Act.put, List.getElem_toArray, List.getElem_cons_succ, List.getElem_cons_zero, List.setIfInBounds_toArray, List.set_cons_zero, List.set_cons_succ]
  refine wpAnyH_take (i := 10) (v := ?_) rfl (by kernel_rfl) (by kernel_rfl) (by kernel_rfl) (fun _ _ _ h => h) (Or.inl ⟨by kernel_rfl, ?_⟩) hHeld ?_
  rotate_left
  · intro w' hSw; try dsimp only at hSw
    have d0 := hSw.1.cell' (i := 0) rfl
    have d1 := hSw.1.cell' (i := 1) rfl
    have d2 := hSw.1.cell' (i := 2) rfl
    have d3 := hSw.1.cell' (i := 3) rfl
    have u0 := hSw.2.cell' (i := 0) rfl
    have u1 := hSw.2.cell' (i := 1) rfl
    have u2 := hSw.2.cell' (i := 2) rfl
    have u3 := hSw.2.cell' (i := 3) rfl
    have u4 := hSw.2.cell' (i := 4) rfl
    have u5 := hSw.2.cell' (i := 5) rfl
    go_simp; try (with_reducible rfl)
  try simp only [Act.put, List.getElem_toArray, List.getElem_cons_succ, List.getElem_cons_zero, List.setIfInBounds_toArray, List.set_cons_zero, List.set_cons_succ]
  refine wpAnyH_take (i := 11) (v := ?_) rfl (by kernel_rfl) (by kernel_rfl) (by kernel_rfl) (fun _ _ _ h => h) (Or.inl ⟨by kernel_rfl, ?_⟩) hHeld ?_
  rotate_left
  · intro w' hSw; try dsimp only at hSw
    have d0 := hSw.1.cell' (i := 0) rfl
    have d1 := hSw.1.cell' (i := 1) rfl
    have d2 := hSw.1.cell' (i := 2) rfl
    have d3 := hSw.1.cell' (i := 3) rfl
    have u0 := hSw.2.cell' (i := 0) rfl
    have u1 := hSw.2.cell' (i := 1) rfl
    have u2 := hSw.2.cell' (i := 2) rfl
    have u3 := hSw.2.cell' (i := 3) rfl
    have u4 := hSw.2.cell' (i := 4) rfl
    have u5 := hSw.2.cell' (i := 5) rfl
    go_simp; try (with_reducible rfl)
  try simp only [Act.put, List.getElem_toArray, List.getElem_cons_succ, List.getElem_cons_zero, List.setIfInBounds_toArray, List.set_cons_zero, List.set_cons_succ]
  refine wpAnyH_take (i := 12) (v := ?_) rfl (by kernel_rfl) (by kernel_rfl) (by kernel_rfl) (fun _ _ _ h => h) (Or.inl ⟨by kernel_rfl, ?_⟩) hHeld ?_
  rotate_left
  · intro w' hSw; try dsimp only at hSw
    have d0 := hSw.1.cell' (i := 0) rfl
    have d1 := hSw.1.cell' (i := 1) rfl
    have d2 := hSw.1.cell' (i := 2) rfl
    have d3 := hSw.1.cell' (i := 3) rfl
    have u0 := hSw.2.cell' (i := 0) rfl
    have u1 := hSw.2.cell' (i := 1) rfl
    have u2 := hSw.2.cell' (i := 2) rfl
    have u3 := hSw.2.cell' (i := 3) rfl
    have u4 := hSw.2.cell' (i := 4) rfl
    have u5 := hSw.2.cell' (i := 5) rfl
    go_simp; try (with_reducible rfl)
  try simp only [Act.put, List.getElem_toArray, List.getElem_cons_succ, List.getElem_cons_zero, List.setIfInBounds_toArray, List.set_cons_zero, List.set_cons_succ]
  refine wpAnyH_ready (rs := [6]) (by kernel_rfl) (by simp) ?_
  refine AllReadyH.cons rfl (fun K hK => ?_) AllReadyH.nil
  go_simp
  refine h1.mono ?_
  rintro e w1 ⟨rfl, c1, A, hP1, hD1⟩
  have Q1 := T0.Q.keepC T0.C A.keep
  refine hK.out _ _ ⟨A.blk T0.C hHeld.1 (by decide) (by decide) (by decide) (by decide), A.blk T0.C hHeld.2 (by decide) (by decide) (by decide) (by decide)⟩ (fun hHeld => ?_)
  clear hK K
  try simp only [Act.put, List.getElem_toArray, List.getElem_cons_succ, List.getElem_cons_zero, List.setIfInBounds_toArray, List.set_cons_zero, List.set_cons_succ]
  refine wpAnyH_ready (rs := [13]) (by kernel_rfl) (by simp) ?_
  refine AllReadyH.cons rfl (fun K hK => ?_) AllReadyH.nil
  go_simp
  refine (h2 _ Q1).mono ?_
  rintro e w2 ⟨rfl, q1, E2, hP2, hR2⟩
  refine hK.out _ _ ⟨hHeld.1.keep E2.keep (Q1.apart hHeld.1 (by decide) (by decide) (by decide) (by decide) (by decide) (by decide)), hHeld.2.keep E2.keep (Q1.apart hHeld.2 (by decide) (by decide) (by decide) (by decide) (by decide) (by decide))⟩ (fun hHeld => ?_)
  clear hK K
  try simp only [Act.put, List.getElem_toArray, List.getElem_cons_succ, List.getElem_cons_zero, List.setIfInBounds_toArray, List.set_cons_zero, List.set_cons_succ]
  refine wpAnyH_take (i := 14) (v := ?_) rfl (by kernel_rfl) (by kernel_rfl) (by kernel_rfl) (fun _ _ _ h => h) (Or.inl ⟨by kernel_rfl, ?_⟩) hHeld ?_
  rotate_left
  · intro w' hSw; try dsimp only at hSw
    go_simp; try (with_reducible rfl)
  try simp only [Act.put, List.getElem_toArray, List.getElem_cons_succ, List.getElem_cons_zero, List.setIfInBounds_toArray, List.set_cons_zero, List.set_cons_succ]
  refine wpAnyH_take (i := 15) (v := ?_) rfl (by kernel_rfl) (by kernel_rfl) (by kernel_rfl) (fun _ _ _ h => h) (Or.inl ⟨by kernel_rfl, ?_⟩) hHeld ?_
  rotate_left
  · intro w' hSw; try dsimp only at hSw
    go_simp; try (with_reducible rfl)
  try simp only [Act.put, List.getElem_toArray, List.getElem_cons_succ, List.getElem_cons_zero, List.setIfInBounds_toArray, List.set_cons_zero, List.set_cons_succ]
  refine wpAnyH_done (by kernel_rfl) ?_ _
  refine NoPanic.normal ?_
  clear hHeld
  go_wp2
  go_ret
  obtain ⟨T2, hb2⟩ := T0.bothC (M := N + 1) A E2 (by rw [hP2, hP1]) (by rw [hD1]; exact hR2) (by rw [hP1, hD1]; exact hpi)
  exact ⟨ret_bool (by simp), c1, q1, T2, (BelC.of hb0.drew T.le).trans hb2, A.d, E2.g⟩
end Go.Proofs.YtdmnddikcpfmfaaGreat
