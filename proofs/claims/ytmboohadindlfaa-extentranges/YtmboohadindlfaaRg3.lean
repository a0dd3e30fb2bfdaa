/-
  A range over an iterator that itself has loops under way: it is told which loop's record its yields turn; each round is told what lies at its value, and that what came so far is a beginning of all.
-/
import Derived.Test.YtmboohadindlfaaRg2
namespace Go.Proofs.Ytmboohadindlfaa
open Go.RowKit
/-- It stands whatever becomes of blocks from B on that hold objects of C. -/
def OwnC {β : Type} (C : Obj → Prop) (B : Nat) (I : β → World → Prop) : Prop :=
  ∀ s W W' row, I s W → W.grownBy W' row → (∀ r, row = some r → B ≤ r ∧ ∃ o : Obj, W.heap[r]? = some o ∧ C o) → I s W'
theorem OwnC.own {β : Type} {C : Obj → Prop} (hC : ∀ o : Obj, o.isCells = false → C o) {B : Nat} {I : β → World → Prop} (h : OwnC C B I) : OwnFrom B I :=
  fun s W W' row hs hg hr => h s W W' row hs hg (fun r e => by obtain ⟨h1, o, ho, hc⟩ := hr r e; exact ⟨h1, o, ho, hC o hc⟩)
/-- What an iterator promises: whatever the rounds' own invariants J (all yielded), Jx (left early): each yield leaves alone what Kp says, l being the loop's record. -/
def Feeds3 {α : Type} (C : Obj → Prop) (P : Program) (n : Nat) (g : Nat) (lb : Array Value) (encs : α → Array Value) (Gv : α → World → Prop) (Kp : Nat → World → World → Prop) (S Sp : List α → Prop) (w : World) : Prop :=
  ∀ (l : Nat) (J Jx : List α → World → Prop) (W : World), Below w.heap.size w W → w.heap.size ≤ l → l < W.heap.size → OwnC C W.heap.size J → OwnC C W.heap.size Jx →
    (∀ pre x W1, J pre W1 → Gv x W1 → W.heap.size ≤ W1.heap.size → Sp (pre ++ [x]) → YieldAt Fence.wide (n - 1) P l (encs x) W1 fun e W' =>
      (e = .returned (.bool true) ∧ J (pre ++ [x]) W' ∧ Kp l W1 W') ∨ (e = .returned (.bool false) ∧ Jx (pre ++ [x]) W' ∧ Kp l W1 W')) →
    J [] W →
    CallsIn Fence.wide n P g (#[.func (.yield l) #[] #[]] ++ lb) W fun e W' => (∃ v, e = .returned v) ∧ ((∃ xs, S xs ∧ J xs W') ∨ (∃ pre, Sp pre ∧ Jx pre W'))
theorem range_feeds3 {α : Type} {C : Obj → Prop} (hC : ∀ o : Obj, o.isCells = false → C o) {P : Program} {n : Nat} (h1 : 1 ≤ n) {g : Operand} {ps : Array Tmp} {assign body : Code} {Q : Exit → Act → World → Prop} {a : Act} {w : World} {gf : Nat} {lb : Array Value} (hg : a.eval g = .func (.func gf) #[] lb)
    (eg : ∀ args w, (callFunc gf args).run P w = .ok (.enter gf args) w) {encs : α → Array Value} {Gv : α → World → Prop} {Kp : Nat → World → World → Prop} {S Sp : List α → Prop} (hseq : Feeds3 C P (n - 1) gf lb encs Gv Kp S Sp w) (hps : ∀ x, (encs x).size = ps.size)
    (hKt : ∀ {l : Nat} {A B C : World}, Kp l A B → Kp l B C → Kp l A C) (hKb : ∀ (W : World) (l : Nat) (o' : Obj), Kp l W (W.putObj l o')) (hGb : ∀ (x : α) (W : World) (l : Nat) (o o' : Obj), W.heap[l]? = some o → o.isCells = false → Gv x W → Gv x (W.putObj l o'))
    (I Ix : List α → World → Prop) (hIC : OwnC C w.heap.size I) (hIxC : OwnC C w.heap.size Ix) (h0 : I [] w) (Ax : α → Act → World → Prop) (hAx : ∀ x a', OwnFrom w.heap.size (fun (_ : Unit) W => Ax x a' W))
    (hassign : ∀ (l : Nat) (pre : List α) (x : α) (W : World) (K : Act → World → Prop), w.heap.size ≤ l → w.heap.size ≤ W.heap.size → I pre W → Gv x W → (∀ a' W', KeepsFrom w.heap.size W W' → Kp l W W' → I pre W' → Gv x W' → Ax x a' W' → K a' W') → assign.wpIn (Fence.wide.inRound l) (n - 1 - 1) P (Exit.then K (fun _ _ _ => False)) { tmps := (ps.zip (encs x)).foldl (fun t (p, v) => t.setIfInBounds p v) a.tmps, defers := [] } W)
    (hbody : ∀ (l : Nat) (pre : List α) (x : α) (a' : Act) (W : World), w.heap.size ≤ l → l < W.heap.size → w.heap.size ≤ W.heap.size → I pre W → Gv x W → Ax x a' W → Sp (pre ++ [x]) → body.wpIn (Fence.wide.inRound l) (n - 1 - 1) P (FeedEnd2 w.heap.size (Kp l) I Ix (pre ++ [x]) W) a' W)
    (hdone : ∀ (D : Nat) (xs : List α) (W : World), w.heap.size ≤ D → S xs → I xs W → W.heap[D]? = some (.deferred (some [])) → Q .normal { a with defers := { target := .collected D, args := #[] } :: a.defers } W)
    (hstop : ∀ (D : Nat) (pre : List α) (W : World), w.heap.size ≤ D → Sp pre → Ix pre W → W.heap[D]? = some (.deferred (some [])) → Code.ret.wpIn Fence.wide n P Q { a with defers := { target := .collected D, args := #[] } :: a.defers } W) :
    (Code.rangeFunc g ps assign body).wpIn Fence.wide n P Q a w := by
  have hI := hIC.own hC
  have hIx := hIxC.own hC
  refine wpIn_rangeFunc fun fn hfn => ?_
  have key : ∀ R : LoopState → Option Code → Loop, (R = fun st pe => { state := st, pending := pe, fn, tmps := a.tmps, params := ps, assign, body, defers := w.heap.size }) →
      CallsIn Fence.wide (n - 1) P gf (#[.func (.yield (w.heap.size + 1)) #[] #[]] ++ lb) ((w.alloc (.deferred (some []))).alloc (.loop (R .ready none)))
        (rangePost Fence.wide n P (w.heap.size + 1) Q { a with defers := [{ target := .collected w.heap.size, args := #[] }] ++ a.defers }) := by
    intro R hR
    have hB1 : Below w.heap.size w ((w.alloc (.deferred (some []))).alloc (.loop (R .ready none))) := bt (below_alloc w _) (below_alloc _ _)
    have hL : ((w.alloc (.deferred (some []))).alloc (.loop (R .ready none))).heap[w.heap.size + 1]? = some (.loop (R .ready none)) := by
      have := World.alloc_heap_new (w.alloc (.deferred (some []))) (.loop (R .ready none)); rwa [World.size_alloc] at this
    have hC : ((w.alloc (.deferred (some []))).alloc (.loop (R .ready none))).heap[w.heap.size]? = some (.deferred (some [])) := (Below.heap_alloc _ _ _ (by simp)).trans (World.alloc_heap_new w _)
    have hI1 : I [] ((w.alloc (.deferred (some []))).alloc (.loop (R .ready none))) := hI.alloc _ (hI.alloc _ h0)
    have hs1 : w.heap.size ≤ ((w.alloc (.deferred (some []))).alloc (.loop (R .ready none))).heap.size := hB1.size
    have hlt1 := (Array.getElem?_eq_some_iff.1 hL).1
    generalize (w.alloc (.deferred (some []))).alloc (.loop (R .ready none)) = W1 at *
    refine (hseq (w.heap.size + 1) (fun pre W => I pre W ∧ W.heap[w.heap.size + 1]? = some (.loop (R .ready none)) ∧ W.heap[w.heap.size]? = some (.deferred (some [])))
      (fun pre W => Ix pre W ∧ W.heap[w.heap.size + 1]? = some (.loop (R .done (some .ret))) ∧ W.heap[w.heap.size]? = some (.deferred (some []))) W1 hB1 (Nat.le_succ _) hlt1
      (fun s X Y row hs hgr hr => ⟨hIC s X Y row hs.1 hgr (fun r e => ⟨Nat.le_trans hs1 (hr r e).1, (hr r e).2⟩), (hgr.block _ (Array.getElem?_eq_some_iff.1 hs.2.1).1 (fun e => by have := (hr _ e.symm).1; omega)).trans hs.2.1, (hgr.block _ (Array.getElem?_eq_some_iff.1 hs.2.2).1 (fun e => by have := (hr _ e.symm).1; omega)).trans hs.2.2⟩)
      (fun s X Y row hs hgr hr => ⟨hIxC s X Y row hs.1 hgr (fun r e => ⟨Nat.le_trans hs1 (hr r e).1, (hr r e).2⟩), (hgr.block _ (Array.getElem?_eq_some_iff.1 hs.2.1).1 (fun e => by have := (hr _ e.symm).1; omega)).trans hs.2.1, (hgr.block _ (Array.getElem?_eq_some_iff.1 hs.2.2).1 (fun e => by have := (hr _ e.symm).1; omega)).trans hs.2.2⟩) ?round ⟨hI1, hL, hC⟩).mono ?after
    case round =>
      rintro pre x W ⟨hi, hl, hc⟩ hgv hsz hlen
      have hy := run_yield (P := P) (args := encs x) hl (by rw [hR]; exact hps x)
      rw [hR] at hy
      have hlt : w.heap.size + 1 < W.heap.size := (Array.getElem?_eq_some_iff.1 hl).1
      refine ⟨fn, _, assign, body, hy, roundIn_of_wpIn hfn (hassign _ pre x W _ (by omega) (by omega) hi hgv ?_)⟩
      clear hy
      intro a' Wa hkfa hkpa hia hgva hax
      replace hl := hkfa.same _ _ (by omega) hl rfl
      replace hc := hkfa.same _ _ (Nat.le_refl _) hc rfl
      replace hlt : w.heap.size + 1 < Wa.heap.size := (Array.getElem?_eq_some_iff.1 hl).1
      replace hi := hia
      replace hgv := hgva
      replace hsz := Nat.le_trans hsz hkfa.size
      clear hia hgva
      revert hkpa hkfa
      generalize W = Wb
      intro hkfa hkpa
      obtain ⟨W, rfl⟩ : ∃ W, W = Wa := ⟨_, rfl⟩
      refine ⟨_, run_beginRound hl (by rw [hR]), ?_⟩
      have hkb : Kp (w.heap.size + 1) W (W.putObj (w.heap.size + 1) (.loop { R .ready none with state := .busy })) := hKb _ _ _
      have hl2 : (W.putObj (w.heap.size + 1) (.loop { R .ready none with state := .busy })).heap[w.heap.size + 1]? = some (.loop { R .ready none with state := .busy }) := World.putObj_heap_same hlt
      have hc2 : (W.putObj (w.heap.size + 1) (.loop { R .ready none with state := .busy })).heap[w.heap.size]? = some (.deferred (some [])) := (World.putObj_heap_other (by omega)).trans hc
      refine wpIn_mono (hbody _ pre x a' _ (by omega) (by rw [World.putObj_size]; omega) (by rw [World.putObj_size]; omega) (hI.putObj _ hi (by omega) hl rfl) (hGb _ _ _ _ _ hl rfl hgv) ((hAx x a').putObj (s := ()) _ hax (by omega) hl rfl) hlen) ?_
      rintro e a3 W3 hp
      cases e with
      | normal =>
        obtain ⟨hk3, hkp3, hi3⟩ := hp
        have hl3 := hk3.same _ _ (by omega) hl2 rfl
        have hc3 := hk3.same _ _ (Nat.le_refl _) hc2 rfl
        have hlt3 : w.heap.size + 1 < W3.heap.size := (Array.getElem?_eq_some_iff.1 hl3).1
        have hend := run_endRound (P := P) none hl3
        rw [hR] at hend
        refine ⟨_, _, hend, .inl ⟨rfl, ⟨hI.putObj _ hi3 (by omega) hl3 rfl, ?_, (World.putObj_heap_other (by omega)).trans hc3⟩, hKt hkpa (hKt (hKt hkb hkp3) (hKb _ _ _))⟩⟩
        rw [World.putObj_heap_same hlt3, hR]; rfl
      | ret =>
        obtain ⟨hk3, hkp3, hi3⟩ := hp
        have hl3 := hk3.same _ _ (by omega) hl2 rfl
        have hc3 := hk3.same _ _ (Nat.le_refl _) hc2 rfl
        have hlt3 : w.heap.size + 1 < W3.heap.size := (Array.getElem?_eq_some_iff.1 hl3).1
        have hend := run_endRound (P := P) (some .ret) hl3
        rw [hR] at hend
        refine ⟨_, _, hend, .inr ⟨rfl, ⟨hIx.putObj _ hi3 (by omega) hl3 rfl, ?_, (World.putObj_heap_other (by omega)).trans hc3⟩, hKt hkpa (hKt (hKt hkb hkp3) (hKb _ _ _))⟩⟩
        rw [World.putObj_heap_same hlt3, hR]; rfl
      | exit id => exact hp.elim
      | goto t => exact hp.elim
      | panic ch => exact hp.elim
      | outgrown => exact hp.elim
    case after =>
      rintro e W2 ⟨⟨v, rfl⟩, (⟨xs, hS, hi, hl, hc⟩ | ⟨pre, hSp, hi, hl, hc⟩)⟩
      · have hend := run_endLoop (P := P) hl (by rw [hR]; simp)
        have hpe : (R .ready none).pending = none := by rw [hR]
        rw [hpe] at hend
        exact ⟨none, _, hend, hdone _ xs _ (Nat.le_refl _) hS (hI.putObj _ hi (by omega) hl rfl) ((World.putObj_heap_other (by omega)).trans hc)⟩
      · have hend := run_endLoop (P := P) hl (by rw [hR]; simp)
        have hpe : (R .done (some .ret)).pending = some .ret := by rw [hR]
        rw [hpe] at hend
        exact ⟨some .ret, _, hend, hstop _ pre _ (Nat.le_refl _) hSp (hIx.putObj _ hi (by omega) hl rfl) ((World.putObj_heap_other (by omega)).trans hc)⟩
  obtain ⟨R, hR⟩ : ∃ R : LoopState → Option Code → Loop, R = fun st pe => { state := st, pending := pe, fn, tmps := a.tmps, params := ps, assign, body, defers := w.heap.size } := ⟨_, rfl⟩
  have k0 := key R hR
  clear key hbody hassign hdone hstop hseq
  obtain ⟨W1, hW1⟩ : ∃ W1, (w.alloc (.deferred (some []))).alloc (.loop (R .ready none)) = W1 := ⟨_, rfl⟩
  rw [hW1] at k0
  have e1 : (Instr.enterLoop fn a.tmps ps assign body none).run P w = .ok (w.heap.size + 1, [{ target := .collected w.heap.size, args := #[] }]) W1 := by rw [← hW1, hR]; exact run_enterLoop_outer fn a.tmps ps assign body
  have e2 : (resolve a.eval (rangeCall g (w.heap.size + 1)) 0).run P W1 = .ok { target := .fn (.func gf) lb, args := #[.func (.yield (w.heap.size + 1)) #[] #[]] } W1 := by
    simp only [resolve, hg]
    simp [go_sem]
  have e3 : (invoke (.fn (.func gf) lb) #[.func (.yield (w.heap.size + 1)) #[] #[]]).run P W1 = .ok (.enter gf (#[.func (.yield (w.heap.size + 1)) #[] #[]] ++ lb)) W1 := by
    simp [invoke, go_sem, eg]
  exact ⟨_, _, _, _, _, _, _, _, e1, e2, fun _ _ => trivial, e3, fun _ => h1, k0⟩
end Go.Proofs.Ytmboohadindlfaa
