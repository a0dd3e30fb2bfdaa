/-
  What longest answers.
-/
import Derived.Test.YthpbeppfiinooaaBmB2
namespace Go.Proofs.Ythpbeppfiinooaa
open Go.RowKit Go.Shelf
attribute [local go_sem] Oper.semAt_some
/-- The longer one of two, of equals the first. -/
def lonF (b : Nat × Nat) (x : Pie) : Nat × Nat := if b.2 < x.l then (x.a, x.l) else b
def lonR (l : List Pie) : Nat × Nat := l.foldl lonF (0, 0)
theorem lonR_snoc (l : List Pie) (x : Pie) : lonR (l ++ [x]) = lonF (lonR l) x := by simp [lonR]
/-- The two boxes. -/
structure By (w W : World) (r : Nat × Nat) : Prop where
  b0 : Boxed W w.heap.size 3 (.int .i64 (r.1 : Int))
  b1 : Boxed W (w.heap.size + 1) 3 (.int .i64 (r.2 : Int))
  bel : Below w.heap.size w W
theorem By.own {β : Type} (w : World) (r : β → Nat × Nat) {B : Nat} (hB : w.heap.size ≤ B) : OwnFrom B (fun (s : β) W => By w W (r s)) := fun s X Y row hs hg hr =>
  ⟨Own.from (boxed_own _ 3 (fun s : β => Value.int .i64 ((r s).1 : Int))) B s X Y row hs.b0 hg hr, Own.from (boxed_own _ 3 (fun s : β => Value.int .i64 ((r s).2 : Int))) B s X Y row hs.b1 hg hr, ownFrom_below (β := β) (Nat.le_refl _) hB s X Y row hs.bel hg hr⟩
theorem By.set {w W : World} {r : Nat × Nat} (h : By w W r) (a l : Nat) : By w ((W.setCell ⟨w.heap.size, 0, none⟩ (.int .i64 (a : Int))).setCell ⟨w.heap.size + 1, 0, none⟩ (.int .i64 (l : Int))) (a, l) :=
  ⟨(h.b0.set _).other (by omega) _, (h.b1.other (by omega) _).set _,
   (h.bel.setCell (p := ⟨w.heap.size, 0, none⟩) (Nat.le_refl _) _).setCell (p := ⟨w.heap.size + 1, 0, none⟩) (Nat.le_succ _) _⟩
set_option linter.unusedSimpArgs false in
set_option maxRecDepth 100000 in
set_option maxHeartbeats 4000000 in
theorem longest_in (nf : Nat) (hnf : 4 ≤ nf) (p : Option Addr) (m c : Nat) (xs : List Nat) (N : Nat) (w : World) (hN : N ≤ 2048) (hx : 0 < N → m = 256 ∧ In w p m c xs) :
    CallsIn Fence.wide nf Try.prog 42 #[.slice p m c, .int .i64 (N : Int)] w fun e w' => e = .returned (.tuple #[.int .i64 ((lonR (runsL (bitL xs) N)).1 : Nat), .int .i64 ((lonR (runsL (bitL xs) N)).2 : Nat)]) ∧ Below w.heap.size w w' := by
  have h1 : 1 ≤ nf := by omega
  obtain ⟨V0, hV0⟩ : ∃ V0, V0 = (w.alloc (.cells #[.int .i64 0] 3)).alloc (.cells #[.int .i64 0] 3) := ⟨_, rfl⟩
  have hb0 : Below w.heap.size w V0 := by rw [hV0]; exact bt (below_alloc _ _) (below_alloc _ _)
  have hs0 : V0.heap.size = w.heap.size + 2 := by rw [hV0]; simp only [World.size_alloc]
  have hbx0 : By w V0 (0, 0) := by
    refine ⟨?_, ?_, hb0⟩
    · rw [hV0]; exact (Boxed.new w 3 (.int .i64 0)).alloc _
    · have := Boxed.new (w.alloc (.cells #[.int .i64 0] 3)) 3 (.int .i64 0)
      rw [World.size_alloc] at this
      rw [hV0]; exact this
  have hx0 : 0 < N → m = 256 ∧ In V0 p m c xs := fun h0 => ⟨(hx h0).1, (hx h0).2.below hb0⟩
  have hrun := runs_any p m c (N : Int) V0
  have hR0 := runsIn_new hN hx0
  have hB1 : Below V0.heap.size V0 ((V0.alloc (.cells #[.slice p m c] 22)).alloc (.cells #[.int .i64 (N : Int)] 3)) := bt (below_alloc _ _) (below_alloc _ _)
  have hlow : 0 < N → ∀ a, p = some a → a.block < w.heap.size := fun h0 a ha => by
    obtain ⟨rfl, hi⟩ := hx h0
    obtain ⟨b, o, e, hlt, _⟩ := hi.at' (by decide)
    rw [ha] at e; cases e; exact hlt
  refine callsIn_of_wp_marks Try.func42 rfl trivial ?_ rfl
  simp only [Try.ntmps42, List.size_toArray, List.length_cons, List.length_nil, Nat.reduceAdd, Nat.reduceSub, Array.replicate_succ, Array.replicate_zero, List.push_toArray, List.append_toArray, List.nil_append, List.cons_append]
  gi_wp2_with fail
  rw [← hV0]
  refine ⟨trivial, (callsIn_wide.2 hrun).mono ?_⟩
  rintro e w1 ⟨rfl, hw1⟩
  rw [← hw1] at hR0 hB1
  have hbx1 : By w w1 (0, 0) := ⟨(hB1.block _ hbx0.b0.lt).trans hbx0.b0, (hB1.block _ hbx0.b1.lt).trans hbx0.b1, bt hb0 hB1⟩
  have hs1 := hB1.size
  have hz1 : V0.heap.size + 1 < w1.heap.size := hR0.bn.lt
  obtain ⟨Bs, hBs⟩ : ∃ Bs, Bs = V0.heap.size := ⟨_, rfl⟩
  obtain ⟨Bn, hBn⟩ : ∃ Bn, Bn = V0.heap.size + 1 := ⟨_, rfl⟩
  rw [← hBn] at hR0 hz1 ⊢
  rw [← hBs] at hR0 ⊢
  have hBs1 : w.heap.size + 2 ≤ Bs := by omega
  have hBn1 : w.heap.size + 2 ≤ Bn := by omega
  clear hw1 hV0 hbx0 hx0 hrun hB1 hBs hBn hb0
  gi_wp2
  have hst := runs_stops (nf - 1) (by omega) N Bs Bn p m c xs w1 hR0
  obtain ⟨L, hL⟩ : ∃ L, runsL (bitL xs) N = L := ⟨_, rfl⟩
  rw [hL] at hst
  have HL : Hid (runsL (bitL xs) N = L) := hL
  clear hL
  refine wpIn_rangeFunc_ownF rfl h1 (gf := 45) (lb := #[.pointer (some ⟨Bn, 0, none⟩), .pointer (some ⟨Bs, 0, none⟩)]) rfl trivial (enters_of Try.func45 (by kernel_rfl) rfl)
    hst (fun h k => h.trans k) (fun W' l o o' hl _ _ _ => ⟨World.putObj_heap_other (by have := hR0.bs.lt; omega), World.putObj_heap_other (by omega), by simp [World.putObj], fun h0 a e => World.putObj_heap_other (by have := hlow h0 a e; have := hbx1.bel.size; omega)⟩) (Below.refl _ _) (fun _ => rfl)
    (fun pre W' => By w W' (lonR pre))
    (fun _ _ _ => False)
    (By.own w lonR (by have := hbx1.bel.size; omega))
    (fun _ s A B row hs hg hr => hs)
    hbx1
    (fun x => { tmps := #[.slice p m c, .int .i64 (N : Int), undef, undef, .int .i64 0, .int .i64 0, .pointer (some ⟨w.heap.size, 0, none⟩), .pointer (some ⟨w.heap.size + 1, 0, none⟩), .int .i64 (x.a : Int), .int .i64 (x.l : Int), .slice p m c, .int .i64 (N : Int), .func (.func 45) #[] #[.pointer (some ⟨Bn, 0, none⟩), .pointer (some ⟨Bs, 0, none⟩)], .int .i64 (x.a : Int), .int .i64 (x.l : Int), undef, undef, undef, undef, undef, undef, undef], defers := [] })
    ?assign ?body ?done ?stop
  case assign =>
    intro l x W' K hK
    dsimp only [encP]
    gi_wp2
    exact hK
  case body =>
    intro l pre x W' hbx hlen
    have hS := lonR_snoc pre x
    obtain ⟨⟨r1, r2⟩, hr⟩ : ∃ r, lonR pre = r := ⟨_, rfl⟩
    rw [hr] at hS hbx
    have HS : Hid (lonR (pre ++ [x]) = lonF (r1, r2) x) := hS
    clear hS hr
    have c0 := hbx.b0.cell
    have c1 := hbx.b1.cell
    have f0 := hbx.b0.frozen
    have c1' := (hbx.b1.other (B' := w.heap.size) (by omega) (.int .i64 (x.a : Int))).cell
    have f1 := (hbx.b1.other (B' := w.heap.size) (by omega) (.int .i64 (x.a : Int))).frozen
    clear hlen
    dsimp only at c0 c1
    by_cases hga : (x.l : Int) > (r2 : Int)
    · gi_wp2
      refine ⟨(KeepsOthers.of_box hbx.b0).trans (KeepsOthers.of_box (hbx.b1.other (by omega) _)), ?_, ?_⟩
      · refine KpR.trans (KpR.of_turned (Turned.setCell _ _ _) (by show Bs ≠ w.heap.size; omega) (by show Bn ≠ w.heap.size; omega) (fun h0 a e => by show a.block ≠ w.heap.size; have := hlow h0 a e; omega)) (KpR.of_turned (Turned.setCell _ _ _) (by show Bs ≠ w.heap.size + 1; omega) (by show Bn ≠ w.heap.size + 1; omega) (fun h0 a e => by show a.block ≠ w.heap.size + 1; have := hlow h0 a e; omega))
      · show By w _ (lonR (pre ++ [x]))
        rw [HS.out, show lonF (r1, r2) x = (x.a, x.l) from if_pos (by show r2 < x.l; omega)]
        exact hbx.set _ _
    · gi_wp2
      refine ⟨KeepsOthers.refl _, KpR.refl _ _ _ _ _, ?_⟩
      show By w _ (lonR (pre ++ [x]))
      rw [HS.out, show lonF (r1, r2) x = (r1, r2) from if_neg (by show ¬ r2 < x.l; omega)]
      exact hbx
  case done =>
    rintro D ys W' hD rfl hbx hK
    obtain ⟨⟨r1, r2⟩, hr⟩ : ∃ r, lonR ys = r := ⟨_, rfl⟩
    rw [hr] at hbx
    have HR : Hid (lonR (runsL (bitL xs) N) = (r1, r2)) := by show _ = _; rw [HL.out]; exact hr
    clear hr
    have c0 := hbx.b0.cell
    have c1 := hbx.b1.cell
    dsimp only at c0 c1
    gi_wp2
    refine wpIn_wide.2 ?_
    refine wp_region_noPanic ?_
    refine wp_region_held_drew (S := (fun X => X.cell? ⟨w.heap.size, 0, none⟩ = some (.int .i64 (r1 : Int)) ∧ X.cell? ⟨w.heap.size + 1, 0, none⟩ = some (.int .i64 (r2 : Int)))) (by kernel_rfl) ⟨c0, c1⟩ (fun hHeld => ?_)
    refine wpAnyH_take (i := 0) (v := ?_) rfl (by kernel_rfl) (by kernel_rfl) (by kernel_rfl) (fun _ _ _ h => h) (Or.inl ⟨by rfl, ?_⟩) hHeld ?_
    rotate_left
    · intro w' hSw; try dsimp only at hSw
      obtain ⟨d0, d1⟩ := hSw
      go_simp; try (with_reducible rfl)
    try simp only [Act.put, List.getElem_toArray, List.getElem_cons_succ, List.getElem_cons_zero, List.setIfInBounds_toArray, List.set_cons_zero, List.set_cons_succ]
    refine wpAnyH_take (i := 1) (v := ?_) rfl (by kernel_rfl) (by kernel_rfl) (by kernel_rfl) (fun _ _ _ h => h) (Or.inl ⟨by rfl, ?_⟩) hHeld ?_
    rotate_left
    · intro w' hSw; try dsimp only at hSw
      obtain ⟨d0, d1⟩ := hSw
      go_simp; try (with_reducible rfl)
    try simp only [Act.put, List.getElem_toArray, List.getElem_cons_succ, List.getElem_cons_zero, List.setIfInBounds_toArray, List.set_cons_zero, List.set_cons_succ]
    refine wpAnyH_take (i := 2) (v := ?_) rfl (by kernel_rfl) (by kernel_rfl) (by kernel_rfl) (fun _ _ _ h => h) (Or.inl ⟨by rfl, ?_⟩) hHeld ?_
    rotate_left
    · intro w' hSw; try dsimp only at hSw
      go_simp; try (with_reducible rfl)
    try simp only [Act.put, List.getElem_toArray, List.getElem_cons_succ, List.getElem_cons_zero, List.setIfInBounds_toArray, List.set_cons_zero, List.set_cons_succ]
    refine wpAnyH_take (i := 3) (v := ?_) rfl (by kernel_rfl) (by kernel_rfl) (by kernel_rfl) (fun _ _ _ h => h) (Or.inl ⟨by rfl, ?_⟩) hHeld ?_
    rotate_left
    · intro w' hSw; try dsimp only at hSw
      go_simp; try (with_reducible rfl)
    try simp only [Act.put, List.getElem_toArray, List.getElem_cons_succ, List.getElem_cons_zero, List.setIfInBounds_toArray, List.set_cons_zero, List.set_cons_succ]
    refine wpAnyH_done (by kernel_rfl) ?_ _
    refine NoPanic.normal ?_
    gi_wp2
    refine ⟨by simp, .inl ⟨_, _, rfl, run_takeDeferred hK, ?_⟩⟩
    have hbD : Below w.heap.size W'.drew (W'.drew.putObj D (.deferred none)) := belowK_b (w := w) (Nat.le_refl _) W'.drew D _ _ (by have := hbx1.bel.size; omega) hK rfl rfl
    rw [HR.out]
    exact ⟨_, results_tmp2 Try.results42 _ _ _, rfl, hbx.bel.drew.trans hbD⟩
  case stop =>
    rintro D c pre W' _ _ h _
    exact h.elim
theorem longest_any (p : Option Addr) (m c : Nat) (xs : List Nat) (N : Nat) (w : World) (hN : N ≤ 2048) (hx : 0 < N → m = 256 ∧ In w p m c xs) :
    Calls Try.prog 42 #[.slice p m c, .int .i64 (N : Int)] w fun e w' => e = .returned (.tuple #[.int .i64 ((lonR (runsL (bitL xs) N)).1 : Nat), .int .i64 ((lonR (runsL (bitL xs) N)).2 : Nat)]) ∧ Below w.heap.size w w' :=
  (callsIn_wide (n := 4)).1 (longest_in 4 (Nat.le_refl _) p m c xs N w hN hx)
end Go.Proofs.Ythpbeppfiinooaa
