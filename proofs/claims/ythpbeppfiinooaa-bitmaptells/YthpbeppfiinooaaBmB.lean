/-
  What runs and behind answer.
-/
import Derived.Test.YthpbeppfiinooaaBmR
import Derived.Lib.MinMax
namespace Go.Proofs.Ythpbeppfiinooaa
open Go.RowKit Go.Shelf
attribute [local go_sem] Oper.semAt_some
theorem runs_any (p : Option Addr) (m c : Nat) (n : Int) (w : World) :
    Calls Try.prog 43 #[.slice p m c, .int .i64 n] w fun e w' => e = .returned (.func (.func 45) #[] #[.pointer (some ⟨w.heap.size + 1, 0, none⟩), .pointer (some ⟨w.heap.size, 0, none⟩)]) ∧ w' = (w.alloc (.cells #[.slice p m c] 22)).alloc (.cells #[.int .i64 n] 3) := by
  go_enter Try.func43, Try.ntmps43
  go_wp2
  go_ret
  exact ⟨by simp, rfl⟩
theorem runsIn_new {w : World} {p : Option Addr} {m c : Nat} {xs : List Nat} {N : Nat} (hN : N ≤ 2048) (hx : 0 < N → m = 256 ∧ In w p m c xs) :
    RunsIn ((w.alloc (.cells #[.slice p m c] 22)).alloc (.cells #[.int .i64 (N : Int)] 3)) N w.heap.size (w.heap.size + 1) p m c xs := by
  refine ⟨(Blk.new' w 22 #[.slice p m c]).alloc _, ?_, hN, fun h0 => ⟨(hx h0).1, (hx h0).2.below (bt (below_alloc _ _) (below_alloc _ _))⟩⟩
  have := Blk.new' (w.alloc (.cells #[.slice p m c] 22)) 3 #[.int .i64 (N : Int)]
  rwa [World.size_alloc] at this
/-- The boxes of behind and ahead: the goal, how many, and what is answered. -/
structure Bx (w W : World) (g wa r : Int) (b : Bool) : Prop where
  b0 : Boxed W w.heap.size 3 (.int .i64 g)
  b1 : Boxed W (w.heap.size + 1) 3 (.int .i64 wa)
  b2 : Boxed W (w.heap.size + 1 + 1) 3 (.int .i64 r)
  b3 : Boxed W (w.heap.size + 1 + 1 + 1) 4 (.bool b)
  bel : Below w.heap.size w W
theorem Bx.own {β : Type} (w : World) (g wa : Int) (r : β → Int) (b : β → Bool) {B : Nat} (hB : w.heap.size ≤ B) : OwnFrom B (fun (s : β) W => Bx w W g wa (r s) (b s)) := fun s X Y row hs hg hr =>
  ⟨Own.from (boxed_own _ 3 (fun _ : β => Value.int .i64 g)) B s X Y row hs.b0 hg hr, Own.from (boxed_own _ 3 (fun _ : β => Value.int .i64 wa)) B s X Y row hs.b1 hg hr,
   Own.from (boxed_own _ 3 (fun s : β => Value.int .i64 (r s))) B s X Y row hs.b2 hg hr, Own.from (boxed_own _ 4 (fun s : β => Value.bool (b s))) B s X Y row hs.b3 hg hr, ownFrom_below (β := β) (Nat.le_refl _) hB s X Y row hs.bel hg hr⟩
theorem Bx.set {w W : World} {g wa r : Int} {b : Bool} (h : Bx w W g wa r b) (r' : Int) (b' : Bool) : Bx w ((W.setCell ⟨w.heap.size + 1 + 1, 0, none⟩ (.int .i64 r')).setCell ⟨w.heap.size + 1 + 1 + 1, 0, none⟩ (.bool b')) g wa r' b' :=
  ⟨(h.b0.other (by omega) _).other (by omega) _, (h.b1.other (by omega) _).other (by omega) _, (h.b2.set _).other (by omega) _, (h.b3.other (by omega) _).set _,
   (h.bel.setCell (p := ⟨w.heap.size + 1 + 1, 0, none⟩) (by show w.heap.size ≤ w.heap.size + 1 + 1; omega) _).setCell (p := ⟨w.heap.size + 1 + 1 + 1, 0, none⟩) (by show w.heap.size ≤ w.heap.size + 1 + 1 + 1; omega) _⟩
theorem KeepsOthers.of_box {A : World} {g : Nat} {t : TypeId} {v u : Value} (h : Boxed A g t v) : KeepsOthers A (A.setCell ⟨g, 0, none⟩ u) := ⟨by simp [World.setCell], fun k o hk ho => by
  by_cases e : k = g
  · subst e; rw [show A.heap[k]? = _ from h] at hk; cases hk; cases ho
  · exact (heap_setCell_other A ⟨g, 0, none⟩ k u e).trans hk⟩
/-- Of the pieces that lie at or behind the goal: one with enough bits. -/
def pB (g : Nat) (wa : Int) (x : Pie) : Bool := decide (wa ≤ (x.a : Int) + x.l - max x.a g)
def behR (l : List Pie) (g : Nat) (wa : Int) : Int × Bool := match l.find? (pB g wa) with
  | some x => (((max x.a g : Nat) : Int), true)
  | none => (0, false)
theorem behR_none {l : List Pie} {g : Nat} {wa : Int} (h : ∀ x ∈ l, pB g wa x = false) : behR l g wa = (0, false) := by
  unfold behR
  rw [List.find?_eq_none.2 fun x hx => by simp [h x hx]]
theorem behR_some {l ini : List Pie} {last : Pie} {g : Nat} {wa : Int} (hp : ini ++ [last] <+: l) (h : ∀ x ∈ ini, pB g wa x = false) (h1 : pB g wa last = true) : behR l g wa = (((max last.a g : Nat) : Int), true) := by
  obtain ⟨t, rfl⟩ := hp
  unfold behR
  have : (ini ++ [last] ++ t).find? (pB g wa) = some last := by
    rw [List.append_assoc, List.find?_append, List.find?_eq_none.2 fun x hx => by simp [h x hx]]
    simp [h1]
  rw [this]
theorem results_two {fn : Func} {p q : Tmp} (h : fn.results = #[.cell p 3, .cell q 4]) {tmps : Array Value} {w : World} {g k : Nat} {x : Int} {y : Bool} (hp : tmps.getD p undef = .pointer (some ⟨g, 0, none⟩)) (hq : tmps.getD q undef = .pointer (some ⟨k, 0, none⟩)) (hb : Boxed w g 3 (.int .i64 x)) (hc : Boxed w k 4 (.bool y)) :
    (results fn tmps).run Try.prog w = .ok (.tuple #[.int .i64 x, .bool y]) w := by
  have hp' : tmps[p]?.getD undef = .pointer (some ⟨g, 0, none⟩) := by simpa using hp
  have hq' : tmps[q]?.getD undef = .pointer (some ⟨k, 0, none⟩) := by simpa using hq
  have c1 := hb.cell
  have c2 := hc.cell
  have hl1 : (loadVar 3 ⟨g, 0, none⟩).run Try.prog w = .ok (.int .i64 x) w := by go_simp
  have hl2 : (loadVar 4 ⟨k, 0, none⟩).run Try.prog w = .ok (.bool y) w := by go_simp
  simp [results, h, hp', hq', asAddr, hl1, hl2]
theorem maxRun (a g : Nat) : ∃ k : Nat, k = max a g ∧ a ≤ k ∧ k ≤ a + g ∧ ∀ (ts : Array TypeId) (t : TypeId) (W : World), (Builtin.max_ ts t #[.int .i64 (a : Int), .int .i64 (g : Int)]).run Try.prog W = .ok (.int .i64 (k : Int)) W :=
  ⟨max a g, rfl, by omega, by omega, fun ts t W => by rw [Lib.run_max_ints]; exact congrArg (fun z => Result.ok (Value.int IntKind.i64 z) W) (by omega)⟩
set_option linter.unusedSimpArgs false in
set_option maxRecDepth 100000 in
set_option maxHeartbeats 4000000 in
theorem behind_in (nf : Nat) (hnf : 4 ≤ nf) (p : Option Addr) (m c : Nat) (xs : List Nat) (N g : Nat) (wa : Int) (w : World) (hN : N ≤ 2048) (hg : g ≤ 2048) (hx : 0 < N → m = 256 ∧ In w p m c xs) :
    CallsIn Fence.wide nf Try.prog 40 #[.slice p m c, .int .i64 (N : Int), .int .i64 (g : Int), .int .i64 wa] w fun e w' => e = .returned (.tuple #[.int .i64 (behR (runsL (bitL xs) N) g wa).1, .bool (behR (runsL (bitL xs) N) g wa).2]) ∧ Below w.heap.size w w' := by
  have h1 : 1 ≤ nf := by omega
  have hgi : (g : Int) ≤ 2048 := by omega
  obtain ⟨V0, hV0⟩ : ∃ V0, V0 = (((w.alloc (.cells #[.int .i64 (g : Int)] 3)).alloc (.cells #[.int .i64 wa] 3)).alloc (.cells #[.int .i64 0] 3)).alloc (.cells #[.bool false] 4) := ⟨_, rfl⟩
  have hb0 : Below w.heap.size w V0 := by rw [hV0]; exact bt (bt (bt (below_alloc _ _) (below_alloc _ _)) (below_alloc _ _)) (below_alloc _ _)
  have hs0 : V0.heap.size = w.heap.size + 4 := by rw [hV0]; simp only [World.size_alloc]
  have hbx0 : Bx w V0 (g : Int) wa 0 false := by
    refine ⟨?_, ?_, ?_, ?_, hb0⟩
    · rw [hV0]; exact (((Boxed.new w 3 (.int .i64 (g : Int))).alloc _).alloc _).alloc _
    · have := Boxed.new (w.alloc (.cells #[.int .i64 (g : Int)] 3)) 3 (.int .i64 wa)
      rw [World.size_alloc] at this
      rw [hV0]; exact (this.alloc _).alloc _
    · have := Boxed.new ((w.alloc (.cells #[.int .i64 (g : Int)] 3)).alloc (.cells #[.int .i64 wa] 3)) 3 (.int .i64 0)
      rw [World.size_alloc, World.size_alloc] at this
      rw [hV0]; exact this.alloc _
    · have := Boxed.new (((w.alloc (.cells #[.int .i64 (g : Int)] 3)).alloc (.cells #[.int .i64 wa] 3)).alloc (.cells #[.int .i64 0] 3)) 4 (.bool false)
      rw [World.size_alloc, World.size_alloc, World.size_alloc] at this
      rw [hV0]; exact this
  have hx0 : 0 < N → m = 256 ∧ In V0 p m c xs := fun h0 => ⟨(hx h0).1, (hx h0).2.below hb0⟩
  have hrun := runs_any p m c (N : Int) V0
  have hR0 := runsIn_new hN hx0
  have hB1 : Below V0.heap.size V0 ((V0.alloc (.cells #[.slice p m c] 22)).alloc (.cells #[.int .i64 (N : Int)] 3)) := bt (below_alloc _ _) (below_alloc _ _)
  have hlow : 0 < N → ∀ a, p = some a → a.block < w.heap.size := fun h0 a ha => by
    obtain ⟨rfl, hi⟩ := hx h0
    obtain ⟨b, o, e, hlt, _⟩ := hi.at' (by decide)
    rw [ha] at e; cases e; exact hlt
  refine callsIn_of_wp_marks Try.func40 rfl trivial ?_ rfl
  simp only [Try.ntmps40, List.size_toArray, List.length_cons, List.length_nil, Nat.reduceAdd, Nat.reduceSub, Array.replicate_succ, Array.replicate_zero, List.push_toArray, List.append_toArray, List.nil_append, List.cons_append]
  gi_wp2_with fail
  rw [← hV0]
  refine ⟨trivial, (callsIn_wide.2 hrun).mono ?_⟩
  rintro e w1 ⟨rfl, hw1⟩
  rw [← hw1] at hR0 hB1
  have hbx1 : Bx w w1 (g : Int) wa 0 false := ⟨(hB1.block _ hbx0.b0.lt).trans hbx0.b0, (hB1.block _ hbx0.b1.lt).trans hbx0.b1, (hB1.block _ hbx0.b2.lt).trans hbx0.b2, (hB1.block _ hbx0.b3.lt).trans hbx0.b3, bt hb0 hB1⟩
  have hs1 := hB1.size
  have hz1 : V0.heap.size + 1 < w1.heap.size := hR0.bn.lt
  obtain ⟨Bs, hBs⟩ : ∃ Bs, Bs = V0.heap.size := ⟨_, rfl⟩
  obtain ⟨Bn, hBn⟩ : ∃ Bn, Bn = V0.heap.size + 1 := ⟨_, rfl⟩
  rw [← hBn] at hR0 hz1 ⊢
  rw [← hBs] at hR0 ⊢
  have hBs1 : w.heap.size + 4 ≤ Bs := by omega
  have hBn1 : w.heap.size + 4 ≤ Bn := by omega
  clear hw1 hV0 hbx0 hx0 hrun hB1 hBs hBn hb0
  gi_wp2
  have hst := runs_stops (nf - 1) (by omega) N Bs Bn p m c xs w1 hR0
  obtain ⟨L, hL⟩ : ∃ L, runsL (bitL xs) N = L := ⟨_, rfl⟩
  rw [hL] at hst
  have HL : Hid (runsL (bitL xs) N = L) := hL
  clear hL
  refine wpIn_rangeFunc_ownF rfl h1 (gf := 45) (lb := #[.pointer (some ⟨Bn, 0, none⟩), .pointer (some ⟨Bs, 0, none⟩)]) rfl trivial (enters_of Try.func45 (by kernel_rfl) rfl)
    hst (fun h k => h.trans k) (fun W' l o o' hl _ _ _ => ⟨World.putObj_heap_other (by have := hR0.bs.lt; omega), World.putObj_heap_other (by omega), by simp [World.putObj], fun h0 a e => World.putObj_heap_other (by have := hlow h0 a e; have := hbx1.bel.size; omega)⟩) (Below.refl _ _) (fun _ => rfl)
    (fun pre W' => (∀ x ∈ pre, pB g wa x = false) ∧ Bx w W' (g : Int) wa 0 false)
    (fun c pre W' => ∃ ini last, pre = ini ++ [last] ∧ c = .ret ∧ (∀ x ∈ ini, pB g wa x = false) ∧ pB g wa last = true ∧ Bx w W' (g : Int) wa ((max last.a g : Nat) : Int) true)
    (fun s A B row hs hg hr => ⟨hs.1, Bx.own w (g : Int) wa (fun _ : List Pie => 0) (fun _ => false) (by have := hbx1.bel.size; omega) s A B row hs.2 hg hr⟩)
    (fun cc s A B row hs hg hr => by obtain ⟨ini, last, e1, e2, e3, e4, e5⟩ := hs; exact ⟨ini, last, e1, e2, e3, e4, Bx.own w (g : Int) wa (fun _ : List Pie => ((max last.a g : Nat) : Int)) (fun _ => true) (by have := hbx1.bel.size; omega) s A B row e5 hg hr⟩)
    ⟨fun x hx => absurd hx List.not_mem_nil, hbx1⟩
    (fun x => { tmps := #[.slice p m c, .int .i64 (N : Int), .int .i64 (g : Int), .int .i64 wa, undef, undef, .pointer (some ⟨w.heap.size, 0, none⟩), .pointer (some ⟨w.heap.size + 1, 0, none⟩), .pointer (some ⟨w.heap.size + 1 + 1, 0, none⟩), .pointer (some ⟨w.heap.size + 1 + 1 + 1, 0, none⟩), .int .i64 (x.a : Int), .int .i64 (x.l : Int), undef, .slice p m c, .int .i64 (N : Int), .func (.func 45) #[] #[.pointer (some ⟨Bn, 0, none⟩), .pointer (some ⟨Bs, 0, none⟩)], .int .i64 (x.a : Int), .int .i64 (x.l : Int), undef, undef, undef, undef, undef, undef, undef, undef, undef, undef, undef], defers := [] })
    ?assign ?body ?done ?stop
  case assign =>
    intro l x W' K hK
    dsimp only [encP]
    gi_wp2
    exact hK
  case body =>
    rintro l pre x W' ⟨hpre, hbx⟩ hlen
    obtain ⟨k, HK0, hk1, hk2, hmax⟩ := maxRun x.a g
    have HP : Hid (∀ x ∈ pre, pB g wa x = false) := hpre
    have HX : Hid (pB g wa x = decide (wa ≤ (x.a : Int) + (x.l : Int) - (k : Int))) := by show _ = _; unfold pB; rw [← HK0]
    have HK : Hid (k = max x.a g) := HK0
    have hxh := x.h
    have hb1 : (x.a : Int) + (x.l : Int) ≤ 2048 := by omega
    have hb2 : (k : Int) ≤ 4096 := by omega
    have c0 := hbx.b0.cell
    have c1 := hbx.b1.cell
    have c2 := hbx.b2.cell
    have c3 := (hbx.b3.other (B' := w.heap.size + 1 + 1) (by omega) (.int .i64 (k : Int))).cell
    have f2 := hbx.b2.frozen
    have f3 := (hbx.b3.other (B' := w.heap.size + 1 + 1) (by omega) (.int .i64 (k : Int))).frozen
    clear hpre HK0 hxh hlen hk1 hk2
    by_cases hge : wa ≤ (x.a : Int) + (x.l : Int) - (k : Int)
    · gi_wp2
      refine ⟨(KeepsOthers.of_box hbx.b2).trans (KeepsOthers.of_box (hbx.b3.other (by omega) _)), pre, x, rfl, rfl, HP.out, by rw [HX.out]; simpa using hge, ?_⟩
      rw [← HK.out]
      exact hbx.set _ _
    · gi_wp2
      refine ⟨KeepsOthers.refl _, KpR.refl _ _ _ _ _, fun y hy => ?_, hbx⟩
      rcases List.mem_append.1 hy with h | h
      · exact HP.out y h
      · rw [List.mem_singleton.1 h, HX.out]; simpa using hge
  case done =>
    rintro D ys W' hD rfl ⟨hpre, hbx⟩ hK
    have HB : Hid (behR (runsL (bitL xs) N) g wa = (0, false)) := by show _ = _; rw [HL.out]; exact behR_none hpre
    have hbx2 := hbx.set 0 false
    have c2 := hbx.b2.cell
    have c3 := (hbx.b3.other (B' := w.heap.size + 1 + 1) (by omega) (.int .i64 0)).cell
    have f2 := hbx.b2.frozen
    have f3 := (hbx.b3.other (B' := w.heap.size + 1 + 1) (by omega) (.int .i64 0)).frozen
    clear hpre
    gi_wp2
    have hK2 : ((W'.setCell ⟨w.heap.size + 1 + 1, 0, none⟩ (.int .i64 0)).setCell ⟨w.heap.size + 1 + 1 + 1, 0, none⟩ (.bool false)).heap[D]? = some (.deferred (some [])) := by
      rw [heap_setCell_other _ _ _ _ (by show D ≠ w.heap.size + 1 + 1 + 1; omega), heap_setCell_other _ _ _ _ (by show D ≠ w.heap.size + 1 + 1; omega)]
      exact hK
    refine ⟨by simp, .inl ⟨_, _, rfl, run_takeDeferred hK2, ?_⟩⟩
    have hbx3 := OwnFrom.putObj (Bx.own w (g : Int) wa (fun _ : Unit => 0) (fun _ => false) (Nat.le_refl w.heap.size)) (s := ()) (.deferred none) hbx2 (by omega) hK2 rfl
    rw [HB.out]
    exact ⟨_, results_two Try.results40 rfl rfl hbx3.b2 hbx3.b3, rfl, hbx3.bel⟩
  case stop =>
    rintro D cc pre W' hD hsp ⟨ini, last, e1, rfl, e3, e4, hbx⟩ hK
    have HB : Hid (behR (runsL (bitL xs) N) g wa = (((max last.a g : Nat) : Int), true)) := by show _ = _; rw [HL.out]; exact behR_some (by rw [← e1]; exact hsp) e3 e4
    gi_wp2
    refine ⟨by simp, .inl ⟨_, _, rfl, run_takeDeferred hK, ?_⟩⟩
    have hbx3 := OwnFrom.putObj (Bx.own w (g : Int) wa (fun _ : Unit => ((max last.a g : Nat) : Int)) (fun _ => true) (Nat.le_refl w.heap.size)) (s := ()) (.deferred none) hbx (by omega) hK rfl
    rw [HB.out]
    exact ⟨_, results_two Try.results40 rfl rfl hbx3.b2 hbx3.b3, rfl, hbx3.bel⟩
theorem behind_any (p : Option Addr) (m c : Nat) (xs : List Nat) (N g : Nat) (wa : Int) (w : World) (hN : N ≤ 2048) (hg : g ≤ 2048) (hx : 0 < N → m = 256 ∧ In w p m c xs) :
    Calls Try.prog 40 #[.slice p m c, .int .i64 (N : Int), .int .i64 (g : Int), .int .i64 wa] w fun e w' => e = .returned (.tuple #[.int .i64 (behR (runsL (bitL xs) N) g wa).1, .bool (behR (runsL (bitL xs) N) g wa).2]) ∧ Below w.heap.size w w' :=
  (callsIn_wide (n := 4)).1 (behind_in 4 (Nat.le_refl _) p m c xs N g wa w hN hg hx)
end Go.Proofs.Ythpbeppfiinooaa
