/-
  What ahead answers.
-/
import Derived.Test.YthpbeppfiinooaaBmB
namespace Go.Proofs.Ythpbeppfiinooaa
open Go.RowKit Go.Shelf
attribute [local go_sem] Oper.semAt_some
/-- A run ahead of the goal that has too few bits. -/
def pA (g : Nat) (wa : Int) (x : Pie) : Bool := decide (x.a < g) && !decide (wa ≤ (x.l : Int))
def aheR (l : List Pie) (g : Nat) (wa : Int) : Int × Bool := match (l.takeWhile fun x => decide (x.a < g)).find? (fun x => decide (wa ≤ (x.l : Int))) with
  | some x => ((x.a : Int), true)
  | none => (0, false)
theorem pA_iff {g : Nat} {wa : Int} {x : Pie} : pA g wa x = true ↔ x.a < g ∧ ¬ wa ≤ (x.l : Int) := by unfold pA; simp
theorem tw_all {g : Nat} {wa : Int} {ini t : List Pie} (h : ∀ x ∈ ini, pA g wa x = true) : (ini ++ t).takeWhile (fun x => decide (x.a < g)) = ini ++ t.takeWhile fun x => decide (x.a < g) := by
  induction ini with
  | nil => rfl
  | cons y r ih =>
    have hy := (pA_iff.1 (h y List.mem_cons_self)).1
    rw [List.cons_append, List.takeWhile_cons_of_pos (by simpa using hy), ih fun x hx => h x (List.mem_cons_of_mem _ hx)]; rfl
theorem find_no {g : Nat} {wa : Int} {ini : List Pie} (h : ∀ x ∈ ini, pA g wa x = true) : ini.find? (fun x => decide (wa ≤ (x.l : Int))) = none :=
  List.find?_eq_none.2 fun x hx => by have := (pA_iff.1 (h x hx)).2; simpa using this
theorem aheR_none {l : List Pie} {g : Nat} {wa : Int} (h : ∀ x ∈ l, pA g wa x = true) : aheR l g wa = (0, false) := by
  unfold aheR
  have := tw_all (t := []) h
  rw [List.append_nil] at this
  rw [this, List.takeWhile_nil, List.append_nil, find_no h]
theorem aheR_stop {l ini : List Pie} {last : Pie} {g : Nat} {wa : Int} (hp : ini ++ [last] <+: l) (h : ∀ x ∈ ini, pA g wa x = true) (h1 : g ≤ last.a) : aheR l g wa = (0, false) := by
  obtain ⟨t, rfl⟩ := hp
  unfold aheR
  rw [List.append_assoc, tw_all h, List.cons_append, List.takeWhile_cons_of_neg (by simpa using h1), List.append_nil, find_no h]
theorem aheR_some {l ini : List Pie} {last : Pie} {g : Nat} {wa : Int} (hp : ini ++ [last] <+: l) (h : ∀ x ∈ ini, pA g wa x = true) (h1 : last.a < g) (h2 : wa ≤ (last.l : Int)) : aheR l g wa = ((last.a : Int), true) := by
  obtain ⟨t, rfl⟩ := hp
  unfold aheR
  rw [List.append_assoc, tw_all h, List.cons_append, List.takeWhile_cons_of_pos (by simpa using h1), List.find?_append, find_no h, List.find?_cons_of_pos (by simpa using h2)]
  rfl
set_option linter.unusedSimpArgs false in
set_option maxRecDepth 100000 in
set_option maxHeartbeats 4000000 in
theorem ahead_in (nf : Nat) (hnf : 4 ≤ nf) (p : Option Addr) (m c : Nat) (xs : List Nat) (N g : Nat) (wa : Int) (w : World) (hN : N ≤ 2048) (hg : g ≤ 2048) (hx : 0 < N → m = 256 ∧ In w p m c xs) :
    CallsIn Fence.wide nf Try.prog 41 #[.slice p m c, .int .i64 (N : Int), .int .i64 (g : Int), .int .i64 wa] w fun e w' => e = .returned (.tuple #[.int .i64 (aheR (runsL (bitL xs) N) g wa).1, .bool (aheR (runsL (bitL xs) N) g wa).2]) ∧ Below w.heap.size w w' := by
  have h1 : 1 ≤ nf := by omega
  have hgi : (g : Int) ≤ 2048 := by omega
  obtain ⟨V0, hV0⟩ : ∃ V0, V0 = (((w.alloc (.cells #[.int .i64 (g : Int)] 3)).alloc (.cells #[.int .i64 wa] 3)).alloc (.cells #[.int .i64 0] 3)).alloc (.cells #[.bool false] 4) := ⟨_, rfl⟩
  have hb0 : Below w.heap.size w V0 := by rw [hV0]; exact bt (bt (bt (below_alloc _ _) (below_alloc _ _)) (below_alloc _ _)) (below_alloc _ _)
  have hs0 : V0.heap.size = w.heap.size + 4 := by rw [hV0]; simp only [World.size_alloc]
  have hbx0 : Bx w V0 (g : Int) wa 0 false := by
    refine ⟨?_, ?_, ?_, ?_, hb0⟩
    · rw [hV0]; exact (((Boxed.new w 3 (.int .i64 (g : Int))).alloc _).alloc _).alloc _
    · have := Boxed.new (w.alloc (.cells #[.int .i64 (g : Int)] 3)) 3 (.int .i64 wa)
      rw [World.size_alloc] at this
      rw [hV0]; exact (this.alloc _).alloc _
    · have := Boxed.new ((w.alloc (.cells #[.int .i64 (g : Int)] 3)).alloc (.cells #[.int .i64 wa] 3)) 3 (.int .i64 0)
      rw [World.size_alloc, World.size_alloc] at this
      rw [hV0]; exact this.alloc _
    · have := Boxed.new (((w.alloc (.cells #[.int .i64 (g : Int)] 3)).alloc (.cells #[.int .i64 wa] 3)).alloc (.cells #[.int .i64 0] 3)) 4 (.bool false)
      rw [World.size_alloc, World.size_alloc, World.size_alloc] at this
      rw [hV0]; exact this
  have hx0 : 0 < N → m = 256 ∧ In V0 p m c xs := fun h0 => ⟨(hx h0).1, (hx h0).2.below hb0⟩
  have hrun := runs_any p m c (N : Int) V0
  have hR0 := runsIn_new hN hx0
  have hB1 : Below V0.heap.size V0 ((V0.alloc (.cells #[.slice p m c] 22)).alloc (.cells #[.int .i64 (N : Int)] 3)) := bt (below_alloc _ _) (below_alloc _ _)
  have hlow : 0 < N → ∀ a, p = some a → a.block < w.heap.size := fun h0 a ha => by
    obtain ⟨rfl, hi⟩ := hx h0
    obtain ⟨b, o, e, hlt, _⟩ := hi.at' (by decide)
    rw [ha] at e; cases e; exact hlt
  refine callsIn_of_wp_marks Try.func41 rfl trivial ?_ rfl
  simp only [Try.ntmps41, List.size_toArray, List.length_cons, List.length_nil, Nat.reduceAdd, Nat.reduceSub, Array.replicate_succ, Array.replicate_zero, List.push_toArray, List.append_toArray, List.nil_append, List.cons_append]
  gi_wp2_with fail
  rw [← hV0]
  refine ⟨trivial, (callsIn_wide.2 hrun).mono ?_⟩
  rintro e w1 ⟨rfl, hw1⟩
  rw [← hw1] at hR0 hB1
  have hbx1 : Bx w w1 (g : Int) wa 0 false := ⟨(hB1.block _ hbx0.b0.lt).trans hbx0.b0, (hB1.block _ hbx0.b1.lt).trans hbx0.b1, (hB1.block _ hbx0.b2.lt).trans hbx0.b2, (hB1.block _ hbx0.b3.lt).trans hbx0.b3, bt hb0 hB1⟩
  have hs1 := hB1.size
  have hz1 : V0.heap.size + 1 < w1.heap.size := hR0.bn.lt
  obtain ⟨Bs, hBs⟩ : ∃ Bs, Bs = V0.heap.size := ⟨_, rfl⟩
  obtain ⟨Bn, hBn⟩ : ∃ Bn, Bn = V0.heap.size + 1 := ⟨_, rfl⟩
  rw [← hBn] at hR0 hz1 ⊢
  rw [← hBs] at hR0 ⊢
  have hBs1 : w.heap.size + 4 ≤ Bs := by omega
  have hBn1 : w.heap.size + 4 ≤ Bn := by omega
  clear hw1 hV0 hbx0 hx0 hrun hB1 hBs hBn hb0
  gi_wp2
  have hst := runs_stops (nf - 1) (by omega) N Bs Bn p m c xs w1 hR0
  obtain ⟨L, hL⟩ : ∃ L, runsL (bitL xs) N = L := ⟨_, rfl⟩
  rw [hL] at hst
  have HL : Hid (runsL (bitL xs) N = L) := hL
  clear hL
  refine wpIn_rangeFunc_ownF rfl h1 (gf := 45) (lb := #[.pointer (some ⟨Bn, 0, none⟩), .pointer (some ⟨Bs, 0, none⟩)]) rfl trivial (enters_of Try.func45 (by kernel_rfl) rfl)
    hst (fun h k => h.trans k) (fun W' l o o' hl _ _ _ => ⟨World.putObj_heap_other (by have := hR0.bs.lt; omega), World.putObj_heap_other (by omega), by simp [World.putObj], fun h0 a e => World.putObj_heap_other (by have := hlow h0 a e; have := hbx1.bel.size; omega)⟩) (Below.refl _ _) (fun _ => rfl)
    (fun pre W' => (∀ x ∈ pre, pA g wa x = true) ∧ Bx w W' (g : Int) wa 0 false)
    (fun c pre W' => ∃ ini last, pre = ini ++ [last] ∧ (∀ x ∈ ini, pA g wa x = true) ∧ ((c = .ret ∧ last.a < g ∧ wa ≤ (last.l : Int) ∧ Bx w W' (g : Int) wa (last.a : Int) true) ∨ (c = .exit 0 ∧ g ≤ last.a ∧ Bx w W' (g : Int) wa 0 false)))
    (fun s A B row hs hg hr => ⟨hs.1, Bx.own w (g : Int) wa (fun _ : List Pie => 0) (fun _ => false) (by have := hbx1.bel.size; omega) s A B row hs.2 hg hr⟩)
    (fun cc s A B row hs hg hr => by
      obtain ⟨ini, last, e1, e2, (⟨e3, e4, e5, e6⟩ | ⟨e3, e4, e6⟩)⟩ := hs
      · exact ⟨ini, last, e1, e2, .inl ⟨e3, e4, e5, Bx.own w (g : Int) wa (fun _ : List Pie => (last.a : Int)) (fun _ => true) (by have := hbx1.bel.size; omega) s A B row e6 hg hr⟩⟩
      · exact ⟨ini, last, e1, e2, .inr ⟨e3, e4, Bx.own w (g : Int) wa (fun _ : List Pie => 0) (fun _ => false) (by have := hbx1.bel.size; omega) s A B row e6 hg hr⟩⟩)
    ⟨fun x hx => absurd hx List.not_mem_nil, hbx1⟩
    (fun x => { tmps := #[.slice p m c, .int .i64 (N : Int), .int .i64 (g : Int), .int .i64 wa, undef, undef, .pointer (some ⟨w.heap.size, 0, none⟩), .pointer (some ⟨w.heap.size + 1, 0, none⟩), .pointer (some ⟨w.heap.size + 1 + 1, 0, none⟩), .pointer (some ⟨w.heap.size + 1 + 1 + 1, 0, none⟩), .int .i64 (x.a : Int), .int .i64 (x.l : Int), .slice p m c, .int .i64 (N : Int), .func (.func 45) #[] #[.pointer (some ⟨Bn, 0, none⟩), .pointer (some ⟨Bs, 0, none⟩)], .int .i64 (x.a : Int), .int .i64 (x.l : Int), undef, undef, undef, undef, undef, undef, undef], defers := [] })
    ?assign ?body ?done ?stop
  case assign =>
    intro l x W' K hK
    dsimp only [encP]
    gi_wp2
    exact hK
  case body =>
    rintro l pre x W' ⟨hpre, hbx⟩ hlen
    have HP : Hid (∀ x ∈ pre, pA g wa x = true) := hpre
    have c0 := hbx.b0.cell
    have c1 := hbx.b1.cell
    have c2 := hbx.b2.cell
    have c3 := (hbx.b3.other (B' := w.heap.size + 1 + 1) (by omega) (.int .i64 (x.a : Int))).cell
    have f2 := hbx.b2.frozen
    have f3 := (hbx.b3.other (B' := w.heap.size + 1 + 1) (by omega) (.int .i64 (x.a : Int))).frozen
    clear hpre hlen
    by_cases hga : (g : Int) ≤ (x.a : Int)
    · gi_wp2
      exact ⟨KeepsOthers.refl _, pre, x, rfl, HP.out, .inr ⟨rfl, by omega, hbx⟩⟩
    · by_cases hge : wa ≤ (x.l : Int)
      · gi_wp2
        exact ⟨(KeepsOthers.of_box hbx.b2).trans (KeepsOthers.of_box (hbx.b3.other (by omega) _)), pre, x, rfl, HP.out, .inl ⟨rfl, by omega, hge, hbx.set _ _⟩⟩
      · gi_wp2
        refine ⟨KeepsOthers.refl _, KpR.refl _ _ _ _ _, fun y hy => ?_, hbx⟩
        rcases List.mem_append.1 hy with h | h
        · exact HP.out y h
        · rw [List.mem_singleton.1 h]; exact pA_iff.2 ⟨by omega, by omega⟩
  case done =>
    rintro D ys W' hD rfl ⟨hpre, hbx⟩ hK
    have HB : Hid (aheR (runsL (bitL xs) N) g wa = (0, false)) := by show _ = _; rw [HL.out]; exact aheR_none hpre
    clear hpre
    have hbx2 := hbx.set 0 false
    have c2 := hbx.b2.cell
    have c3 := (hbx.b3.other (B' := w.heap.size + 1 + 1) (by omega) (.int .i64 0)).cell
    have f2 := hbx.b2.frozen
    have f3 := (hbx.b3.other (B' := w.heap.size + 1 + 1) (by omega) (.int .i64 0)).frozen
    gi_wp2
    have hK2 : ((W'.setCell ⟨w.heap.size + 1 + 1, 0, none⟩ (.int .i64 0)).setCell ⟨w.heap.size + 1 + 1 + 1, 0, none⟩ (.bool false)).heap[D]? = some (.deferred (some [])) := by
      rw [heap_setCell_other _ _ _ _ (by show D ≠ w.heap.size + 1 + 1 + 1; omega), heap_setCell_other _ _ _ _ (by show D ≠ w.heap.size + 1 + 1; omega)]
      exact hK
    refine ⟨by simp, .inl ⟨_, _, rfl, run_takeDeferred hK2, ?_⟩⟩
    have hbx3 := OwnFrom.putObj (Bx.own w (g : Int) wa (fun _ : Unit => 0) (fun _ => false) (Nat.le_refl w.heap.size)) (s := ()) (.deferred none) hbx2 (by omega) hK2 rfl
    rw [HB.out]
    exact ⟨_, results_two Try.results41 rfl rfl hbx3.b2 hbx3.b3, rfl, hbx3.bel⟩
  case stop =>
    rintro D cc pre W' hD hsp ⟨ini, last, e1, e2, (⟨rfl, e4, e5, hbx⟩ | ⟨rfl, e4, hbx⟩)⟩ hK
    · have HB : Hid (aheR (runsL (bitL xs) N) g wa = ((last.a : Int), true)) := by show _ = _; rw [HL.out]; exact aheR_some (by rw [← e1]; exact hsp) e2 e4 e5
      gi_wp2
      refine ⟨by simp, .inl ⟨_, _, rfl, run_takeDeferred hK, ?_⟩⟩
      have hbx3 := OwnFrom.putObj (Bx.own w (g : Int) wa (fun _ : Unit => (last.a : Int)) (fun _ => true) (Nat.le_refl w.heap.size)) (s := ()) (.deferred none) hbx (by omega) hK rfl
      rw [HB.out]
      exact ⟨_, results_two Try.results41 rfl rfl hbx3.b2 hbx3.b3, rfl, hbx3.bel⟩
    · have HB : Hid (aheR (runsL (bitL xs) N) g wa = (0, false)) := by show _ = _; rw [HL.out]; exact aheR_stop (by rw [← e1]; exact hsp) e2 e4
      clear e1 e2 e4 hsp
      have hbx2 := hbx.set 0 false
      have c2 := hbx.b2.cell
      have c3 := (hbx.b3.other (B' := w.heap.size + 1 + 1) (by omega) (.int .i64 0)).cell
      have f2 := hbx.b2.frozen
      have f3 := (hbx.b3.other (B' := w.heap.size + 1 + 1) (by omega) (.int .i64 0)).frozen
      gi_wp2
      have hK2 : ((W'.setCell ⟨w.heap.size + 1 + 1, 0, none⟩ (.int .i64 0)).setCell ⟨w.heap.size + 1 + 1 + 1, 0, none⟩ (.bool false)).heap[D]? = some (.deferred (some [])) := by
        rw [heap_setCell_other _ _ _ _ (by show D ≠ w.heap.size + 1 + 1 + 1; omega), heap_setCell_other _ _ _ _ (by show D ≠ w.heap.size + 1 + 1; omega)]
        exact hK
      refine ⟨by simp, .inl ⟨_, _, rfl, run_takeDeferred hK2, ?_⟩⟩
      have hbx3 := OwnFrom.putObj (Bx.own w (g : Int) wa (fun _ : Unit => 0) (fun _ => false) (Nat.le_refl w.heap.size)) (s := ()) (.deferred none) hbx2 (by omega) hK2 rfl
      rw [HB.out]
      exact ⟨_, results_two Try.results41 rfl rfl hbx3.b2 hbx3.b3, rfl, hbx3.bel⟩
theorem ahead_any (p : Option Addr) (m c : Nat) (xs : List Nat) (N g : Nat) (wa : Int) (w : World) (hN : N ≤ 2048) (hg : g ≤ 2048) (hx : 0 < N → m = 256 ∧ In w p m c xs) :
    Calls Try.prog 41 #[.slice p m c, .int .i64 (N : Int), .int .i64 (g : Int), .int .i64 wa] w fun e w' => e = .returned (.tuple #[.int .i64 (aheR (runsL (bitL xs) N) g wa).1, .bool (aheR (runsL (bitL xs) N) g wa).2]) ∧ Below w.heap.size w w' :=
  (callsIn_wide (n := 4)).1 (ahead_in 4 (Nat.le_refl _) p m c xs N g wa w hN hg hx)
end Go.Proofs.Ythpbeppfiinooaa
