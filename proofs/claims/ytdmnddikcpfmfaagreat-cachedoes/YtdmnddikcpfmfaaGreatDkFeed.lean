/-
  A range over an iterator that lays what it yields in memory of its own: the round is told what lies there.
-/
import Derived.Test.YtdmnddikcpfmfaaGreatCkU8
import Derived.RangeFuncNested
import Derived.RangeFuncBound
import Derived.RangeFuncCalls
import Derived.RangeFuncLeaves
import Derived.Shelf.Abstract
import Derived.Shelf.RegionOpen
import Derived.OwnWalkIn
import Derived.TacticsInMore
import Derived.LoopNIn
import Derived.LoopIn
import Derived.Recover
import Derived.Defers
namespace Go.Proofs.YtdmnddikcpfmfaaGreat
open Go.RowKit
/-- What an iterator promises that yields values which lie in memory: whatever the rounds' own invariants J (all yielded), Jx (left early): Gv holds of each value at its yield. -/
def Feeds {α : Type} (P : Program) (n : Nat) (g : Nat) (lb : Array Value) (encs : α → Array Value) (Gv : α → World → Prop) (Kp : World → World → Prop) (S Sp : List α → Prop) (N : Nat) (w : World) : Prop :=
  ∀ (l : Nat) (J Jx : List α → World → Prop) (W : World), Below w.heap.size w W → AbidesFrom W.heap.size J →
    (∀ pre x W1, J pre W1 → Gv x W1 → W.heap.size ≤ W1.heap.size → pre.length < N → YieldAt Fence.wide (n - 1) P l (encs x) W1 fun e W' =>
      (e = .returned (.bool true) ∧ J (pre ++ [x]) W' ∧ Kp W1 W') ∨ (e = .returned (.bool false) ∧ Jx (pre ++ [x]) W')) →
    J [] W →
    CallsIn Fence.wide n P g (#[.func (.yield l) #[] #[]] ++ lb) W fun e W' => (∃ v, e = .returned v) ∧ ((∃ xs, S xs ∧ J xs W') ∨ (∃ pre, Sp pre ∧ Jx pre W'))
/-- How a round may end: on to the next one, or out of the function. -/
def FeedEnd {α : Type} (B : Nat) (Kp : World → World → Prop) (I Ix : List α → World → Prop) (xs : List α) (W : World) : Exit → Act → World → Prop
  | .normal, _, W' => KeepsFrom B W W' ∧ Kp W W' ∧ I xs W'
  | .ret, _, W' => KeepsFrom B W W' ∧ Ix xs W'
  | _, _, _ => False
theorem range_feeds {α : Type} {P : Program} {n : Nat} (h1 : 1 ≤ n) {g : Operand} {ps : Array Tmp} {assign body : Code} {Q : Exit → Act → World → Prop} {a : Act} {w : World} {gf : Nat} {lb : Array Value} (hg : a.eval g = .func (.func gf) #[] lb)
    (eg : ∀ args w, (callFunc gf args).run P w = .ok (.enter gf args) w) {encs : α → Array Value} {Gv : α → World → Prop} {Kp : World → World → Prop} {S Sp : List α → Prop} {N : Nat} (hseq : Feeds P (n - 1) gf lb encs Gv Kp S Sp N w) (hps : ∀ x, (encs x).size = ps.size)
    (hKt : ∀ {A B C : World}, Kp A B → Kp B C → Kp A C) (hKb : ∀ (W : World) (l : Nat) (o o' : Obj), w.heap.size ≤ l → W.heap[l]? = some o → o.isCells = false → Kp W (W.putObj l o'))
    (hGb : ∀ (x : α) (W : World) (l : Nat) (o o' : Obj), W.heap[l]? = some o → o.isCells = false → Gv x W → Gv x (W.putObj l o'))
    (I Ix : List α → World → Prop) (hI : OwnFrom w.heap.size I) (hIx : OwnFrom w.heap.size Ix) (h0 : I [] w) (A : α → Act)
    (hassign : ∀ (l : Nat) (x : α) (W : World) (K : Act → World → Prop), K (A x) W → assign.wpIn (Fence.wide.inRound l) (n - 1 - 1) P (Exit.then K (fun _ _ _ => False)) { tmps := (ps.zip (encs x)).foldl (fun t (p, v) => t.setIfInBounds p v) a.tmps, defers := [] } W)
    (hbody : ∀ (l : Nat) (pre : List α) (x : α) (W : World), w.heap.size ≤ l → w.heap.size ≤ W.heap.size → I pre W → Gv x W → pre.length < N → body.wpIn (Fence.wide.inRound l) (n - 1 - 1) P (FeedEnd w.heap.size Kp I Ix (pre ++ [x]) W) (A x) W)
    (hdone : ∀ (D : Nat) (xs : List α) (W : World), w.heap.size ≤ D → S xs → I xs W → W.heap[D]? = some (.deferred (some [])) → Q .normal { a with defers := { target := .collected D, args := #[] } :: a.defers } W)
    (hstop : ∀ (D : Nat) (pre : List α) (W : World), w.heap.size ≤ D → Sp pre → Ix pre W → W.heap[D]? = some (.deferred (some [])) → Code.ret.wpIn Fence.wide n P Q { a with defers := { target := .collected D, args := #[] } :: a.defers } W) :
    (Code.rangeFunc g ps assign body).wpIn Fence.wide n P Q a w := by
  refine wpIn_rangeFunc fun fn hfn => ?_
  have key : ∀ R : LoopState → Option Code → Loop, (R = fun st pe => { state := st, pending := pe, fn, tmps := a.tmps, params := ps, assign, body, defers := w.heap.size }) →
      CallsIn Fence.wide (n - 1) P gf (#[.func (.yield (w.heap.size + 1)) #[] #[]] ++ lb) ((w.alloc (.deferred (some []))).alloc (.loop (R .ready none)))
        (rangePost Fence.wide n P (w.heap.size + 1) Q { a with defers := [{ target := .collected w.heap.size, args := #[] }] ++ a.defers }) := by
    intro R hR
    have hB1 : Below w.heap.size w ((w.alloc (.deferred (some []))).alloc (.loop (R .ready none))) := bt (below_alloc w _) (below_alloc _ _)
    have hL : ((w.alloc (.deferred (some []))).alloc (.loop (R .ready none))).heap[w.heap.size + 1]? = some (.loop (R .ready none)) := by
      have := World.alloc_heap_new (w.alloc (.deferred (some []))) (.loop (R .ready none)); rwa [World.size_alloc] at this
    have hC : ((w.alloc (.deferred (some []))).alloc (.loop (R .ready none))).heap[w.heap.size]? = some (.deferred (some [])) := (Below.heap_alloc _ _ _ (by simp)).trans (World.alloc_heap_new w _)
    have hI1 : I [] ((w.alloc (.deferred (some []))).alloc (.loop (R .ready none))) := hI.alloc _ (hI.alloc _ h0)
    have hs1 : w.heap.size ≤ ((w.alloc (.deferred (some []))).alloc (.loop (R .ready none))).heap.size := hB1.size
    generalize (w.alloc (.deferred (some []))).alloc (.loop (R .ready none)) = W1 at *
    refine (hseq (w.heap.size + 1) (fun pre W => I pre W ∧ W.heap[w.heap.size + 1]? = some (.loop (R .ready none)) ∧ W.heap[w.heap.size]? = some (.deferred (some [])))
      (fun pre W => Ix pre W ∧ W.heap[w.heap.size + 1]? = some (.loop (R .done (some .ret))) ∧ W.heap[w.heap.size]? = some (.deferred (some []))) W1 hB1
      (fun s X Y row hs hgr hr => ⟨hI s X Y row hs.1 hgr (fun r e => by obtain ⟨hb, o, ho, hw⟩ := hr r e; exact ⟨Nat.le_trans hs1 hb, o, ho, Obj.not_cells_of_walk hw⟩),
        (grownBy_keeps hgr (fun r e => (hr r e).2) hs.2.1 rfl).trans hs.2.1, (grownBy_keeps hgr (fun r e => (hr r e).2) hs.2.2 rfl).trans hs.2.2⟩) ?round ⟨hI1, hL, hC⟩).mono ?after
    case round =>
      rintro pre x W ⟨hi, hl, hc⟩ hgv hsz hlen
      have hy := run_yield (P := P) (args := encs x) hl (by rw [hR]; exact hps x)
      rw [hR] at hy
      refine ⟨fn, _, assign, body, hy, roundIn_of_wpIn hfn (hassign _ x W _ ?_)⟩
      refine ⟨_, run_beginRound hl (by rw [hR]), ?_⟩
      have hlt : w.heap.size + 1 < W.heap.size := (Array.getElem?_eq_some_iff.1 hl).1
      have hkb : Kp W (W.putObj (w.heap.size + 1) (.loop { R .ready none with state := .busy })) := hKb _ _ _ _ (by omega) hl rfl
      have hl2 : (W.putObj (w.heap.size + 1) (.loop { R .ready none with state := .busy })).heap[w.heap.size + 1]? = some (.loop { R .ready none with state := .busy }) := World.putObj_heap_same hlt
      have hc2 : (W.putObj (w.heap.size + 1) (.loop { R .ready none with state := .busy })).heap[w.heap.size]? = some (.deferred (some [])) := (World.putObj_heap_other (by omega)).trans hc
      refine wpIn_mono (hbody _ pre x _ (by omega) (by rw [World.putObj_size]; omega) (hI.putObj _ hi (by omega) hl rfl) (hGb _ _ _ _ _ hl rfl hgv) hlen) ?_
      rintro e a3 W3 hp
      cases e with
      | normal =>
        obtain ⟨hk3, hkp3, hi3⟩ := hp
        have hl3 := hk3.same _ _ (by omega) hl2 rfl
        have hc3 := hk3.same _ _ (Nat.le_refl _) hc2 rfl
        have hlt3 : w.heap.size + 1 < W3.heap.size := (Array.getElem?_eq_some_iff.1 hl3).1
        have hend := run_endRound (P := P) none hl3
        rw [hR] at hend
        refine ⟨_, _, hend, .inl ⟨rfl, ⟨hI.putObj _ hi3 (by omega) hl3 rfl, ?_, (World.putObj_heap_other (by omega)).trans hc3⟩, hKt (hKt hkb hkp3) (hKb _ _ _ _ (by omega) hl3 rfl)⟩⟩
        rw [World.putObj_heap_same hlt3, hR]; rfl
      | ret =>
        obtain ⟨hk3, hi3⟩ := hp
        have hl3 := hk3.same _ _ (by omega) hl2 rfl
        have hc3 := hk3.same _ _ (Nat.le_refl _) hc2 rfl
        have hlt3 : w.heap.size + 1 < W3.heap.size := (Array.getElem?_eq_some_iff.1 hl3).1
        have hend := run_endRound (P := P) (some .ret) hl3
        rw [hR] at hend
        refine ⟨_, _, hend, .inr ⟨rfl, hIx.putObj _ hi3 (by omega) hl3 rfl, ?_, (World.putObj_heap_other (by omega)).trans hc3⟩⟩
        rw [World.putObj_heap_same hlt3, hR]; rfl
      | exit id => exact hp.elim
      | goto t => exact hp.elim
      | panic ch => exact hp.elim
      | outgrown => exact hp.elim
    case after =>
      rintro e W2 ⟨⟨v, rfl⟩, (⟨xs, hS, hi, hl, hc⟩ | ⟨pre, hSp, hi, hl, hc⟩)⟩
      · have hend := run_endLoop (P := P) hl (by rw [hR]; simp)
        have hpe : (R .ready none).pending = none := by rw [hR]
        rw [hpe] at hend
        exact ⟨none, _, hend, hdone _ xs _ (Nat.le_refl _) hS (hI.putObj _ hi (by omega) hl rfl) ((World.putObj_heap_other (by omega)).trans hc)⟩
      · have hend := run_endLoop (P := P) hl (by rw [hR]; simp)
        have hpe : (R .done (some .ret)).pending = some .ret := by rw [hR]
        rw [hpe] at hend
        exact ⟨some .ret, _, hend, hstop _ pre _ (Nat.le_refl _) hSp (hIx.putObj _ hi (by omega) hl rfl) ((World.putObj_heap_other (by omega)).trans hc)⟩
  obtain ⟨R, hR⟩ : ∃ R : LoopState → Option Code → Loop, R = fun st pe => { state := st, pending := pe, fn, tmps := a.tmps, params := ps, assign, body, defers := w.heap.size } := ⟨_, rfl⟩
  have k0 := key R hR
  clear key hbody hassign hdone hstop hseq
  obtain ⟨W1, hW1⟩ : ∃ W1, (w.alloc (.deferred (some []))).alloc (.loop (R .ready none)) = W1 := ⟨_, rfl⟩
  rw [hW1] at k0
  have e1 : (Instr.enterLoop fn a.tmps ps assign body none).run P w = .ok (w.heap.size + 1, [{ target := .collected w.heap.size, args := #[] }]) W1 := by rw [← hW1, hR]; exact run_enterLoop_outer fn a.tmps ps assign body
  have e2 : (resolve a.eval (rangeCall g (w.heap.size + 1)) 0).run P W1 = .ok { target := .fn (.func gf) lb, args := #[.func (.yield (w.heap.size + 1)) #[] #[]] } W1 := by
    simp only [resolve, hg]
    simp [go_sem]
  have e3 : (invoke (.fn (.func gf) lb) #[.func (.yield (w.heap.size + 1)) #[] #[]]).run P W1 = .ok (.enter gf (#[.func (.yield (w.heap.size + 1)) #[] #[]] ++ lb)) W1 := by
    simp [invoke, go_sem, eg]
  exact ⟨_, _, _, _, _, _, _, _, e1, e2, fun _ _ => trivial, e3, fun _ => h1, k0⟩
end Go.Proofs.YtdmnddikcpfmfaaGreat

namespace Go.Proofs.YtdmnddikcpfmfaaGreat
open Go.RowKit Go.Shelf
attribute [local go_sem] Oper.semAt_some
/-- A value that the iterator yields: a slice of these bytes, and an error. -/
structure Fed where
  p : Option Addr
  c : Nat
  D : List Nat
  E : Int
def encF (x : Fed) : Array Value := #[.slice x.p x.D.length x.c, .int .i64 x.E]
def GvF (x : Fed) (W : World) : Prop := In W x.p x.D.length x.c x.D
/-- What reads of the first k sectors answer. -/
def rdL (s : DS) (k : Nat) : List (List Nat × Int) := (List.range k).map fun i : Nat => (readD s (i : Int), readE s (i : Int))
theorem rdL_succ (s : DS) (k : Nat) : rdL s (k + 1) = rdL s k ++ [(readD s (k : Int), readE s (k : Int))] := by simp [rdL, List.range_succ]
/-- The blocks that the iterator reads lie as they lay. -/
structure KpR (d sb : Nat) (lv : Value) (Bs : Nat) (W W' : World) : Prop where
  same : ∀ k, fpD d sb lv k ∨ k = Bs → W'.heap[k]? = W.heap[k]?
  size : W.heap.size ≤ W'.heap.size
theorem KpR.refl (d sb : Nat) (lv : Value) (Bs : Nat) (W : World) : KpR d sb lv Bs W W := ⟨fun _ _ => rfl, Nat.le_refl _⟩
theorem KpR.trans {d sb : Nat} {lv : Value} {Bs : Nat} {A B C : World} (h : KpR d sb lv Bs A B) (k : KpR d sb lv Bs B C) : KpR d sb lv Bs A C := ⟨fun j hj => (k.same j hj).trans (h.same j hj), Nat.le_trans h.size k.size⟩
theorem grown_below {w w' : World} (h : Below w.heap.size w w') : w.grownBy w' none := ⟨h.os, h.tape, h.output, h.size, fun k hk _ => h.block k hk⟩
set_option linter.unusedSimpArgs false in
set_option maxRecDepth 100000 in
set_option maxHeartbeats 2000000 in
theorem reads1_in (nf : Nat) (hn : 2 ≤ nf) (l Bs d sb : Nat) (lv : Value) (s : DS) (J Jx : List Fed → World → Prop) (W : World) (hJ : AbidesFrom W.heap.size J) (hD : DiskIn W d sb lv s) (hBs : W.cell? ⟨Bs, 0, none⟩ = some (ramI d)) (hlt : Bs < W.heap.size)
    (hY : ∀ pre x W1, J pre W1 → GvF x W1 → W.heap.size ≤ W1.heap.size → pre.length < s.secs.length → YieldAt Fence.wide (nf - 1) Tryz.prog l (encF x) W1 fun e W' =>
      (e = .returned (.bool true) ∧ J (pre ++ [x]) W' ∧ KpR d sb lv Bs W1 W') ∨ (e = .returned (.bool false) ∧ Jx (pre ++ [x]) W')) (h0 : J [] W) :
    CallsIn Fence.wide nf Tryz.prog 106 #[.func (.yield l) #[] #[], .pointer (some ⟨Bs, 0, none⟩)] W fun e W' => (∃ v, e = .returned v) ∧
      ((∃ ys, ys.map (fun x => (x.D, x.E)) = rdL s s.secs.length ∧ J ys W') ∨ (∃ pre, (∃ k, k < s.secs.length ∧ pre.map (fun x => (x.D, x.E)) = rdL s (k + 1)) ∧ Jx pre W')) := by
  have hn1 : 1 ≤ nf := by omega
  have hz := size_any hD
  have hn2 : (s.secs.length : Int) ≤ 8192 := by have := hD.n2; omega
  refine callsIn_of_wp Tryz.func106 rfl trivial ?_ rfl
  simp only [Tryz.ntmps106, List.size_toArray, List.length_cons, List.length_nil, Nat.reduceAdd, Nat.reduceSub, Array.replicate_succ, Array.replicate_zero, List.push_toArray, List.append_toArray, List.nil_append, List.cons_append]
  unfold ramI at hBs
  have hm1 : ∀ W : World, (method 275 24 (.pointer (some ⟨d, 0, none⟩)) "Size").run Tryz.prog W = .ok (147, .pointer (some ⟨d, 0, none⟩)) W := fun _ => by kernel_rfl
  have hm2 : ∀ W : World, (method 275 24 (.pointer (some ⟨d, 0, none⟩)) "Read").run Tryz.prog W = .ok (18, .pointer (some ⟨d, 0, none⟩)) W := fun _ => by kernel_rfl
  gi_wp2_with (refine ⟨trivial, ?_⟩; refine (callsIn_wide.2 hz).mono ?_; rintro e w' ⟨rfl, hw'⟩; have hw2 := hw'.symm; subst hw2; clear hw')
  clear hz
  gi_loopw [6] (fun i wr => ∃ (k : Nat) (pre : List Fed), k ≤ s.secs.length ∧ i = .int .i64 (k : Int) ∧ Hid (pre.map (fun x => (x.D, x.E)) = rdL s k) ∧ J pre wr ∧ KpR d sb lv Bs W wr) (fun i _ => s.secs.length - (intOf i).toNat)
  case atStart => exact ⟨0, [], Nat.zero_le _, rfl, rfl, h0, KpR.refl _ _ _ _ _⟩
  case round =>
    obtain ⟨k, pre, hk, rfl, hpre, hJs, hkr⟩ := hrel
    have D1 : DiskIn wr d sb lv s := hD.same (fun j hj => hkr.same j (.inl hj))
    have b1 : wr.cell? ⟨Bs, 0, none⟩ = some (.iface 24 (.pointer (some ⟨d, 0, none⟩))) := (World.cell?_of_block (a := ⟨Bs, 0, none⟩) (hkr.same Bs (.inr rfl))).trans hBs
    by_cases hkn : k < s.secs.length
    · have hki : (k : Int) < (s.secs.length : Int) := by omega
      have hrd := read_any D1 (k : Int)
      have hlen : pre.length < s.secs.length := by have := congrArg List.length hpre.out; rw [List.length_map, rdL, List.length_map, List.length_range] at this; omega
      have HU : Hid (rdL s (k + 1) = rdL s k ++ [(readD s (k : Int), readE s (k : Int))]) := rdL_succ s k
      generalize readD s (k : Int) = D at *
      generalize readE s (k : Int) = E at *
      gi_wp2_with (refine ⟨trivial, ?_⟩; refine (callsIn_wide.2 hrd).mono ?_; rintro e w3 ⟨p3, c3, rfl, hin3, hb3, _⟩; obtain ⟨fn, tmps, assign, body, hy, hR⟩ := hY pre ⟨p3, c3, D, E⟩ w3 (hJ _ _ _ none hJs (grown_below hb3) (fun r e => by cases e)) hin3 (Nat.le_trans hkr.size hb3.size) hlen; dsimp only [encF] at hy)
      refine hR.mono ?_
      have hk3 : KpR d sb lv Bs wr w3 := ⟨fun j hj => hb3.block j (hj.elim (fun h => D1.lt h) (fun h => by rw [h]; exact Nat.lt_of_lt_of_le hlt hkr.size)), hb3.size⟩
      rintro e W3 (⟨rfl, hJ3, hk4⟩ | ⟨rfl, hJx3⟩)
      · gi_wp2
        go_roundw
        case rel => exact ⟨k + 1, _, by omega, by simp, by show _ = _; rw [List.map_append, hpre.out, HU.out]; rfl, hJ3, (hkr.trans hk3).trans hk4⟩
        case measure => simp [intOf]; omega
      · gi_wp2
        refine bodyPost_ret (results_none rfl _ _ _) rfl ?_
        exact ⟨⟨_, rfl⟩, .inr ⟨_, ⟨k, hkn, by rw [List.map_append, hpre.out, HU.out]; rfl⟩, hJx3⟩⟩
    · obtain rfl : k = s.secs.length := by omega
      gi_wp2
      go_end0
      exact ⟨⟨_, rfl⟩, .inl ⟨_, hpre.out, hJs⟩⟩
theorem reads_feeds (nf : Nat) (hn : 2 ≤ nf) (Bs d sb : Nat) (lv : Value) (s : DS) (w : World) (hD : DiskIn w d sb lv s) (hBs : w.cell? ⟨Bs, 0, none⟩ = some (ramI d)) (hlt : Bs < w.heap.size) :
    Feeds Tryz.prog nf 106 #[.pointer (some ⟨Bs, 0, none⟩)] encF GvF (KpR d sb lv Bs) (fun ys => ys.map (fun x => (x.D, x.E)) = rdL s s.secs.length) (fun pre => ∃ k, k < s.secs.length ∧ pre.map (fun x => (x.D, x.E)) = rdL s (k + 1)) s.secs.length w := fun l J Jx W hW hJ hY h0 =>
  reads1_in nf hn l Bs d sb lv s J Jx W hJ (hD.below hW) ((hW.cell (p := ⟨Bs, 0, none⟩) hlt).trans hBs) (Nat.lt_of_lt_of_le hlt hW.size) hY h0
end Go.Proofs.YtdmnddikcpfmfaaGreat

namespace Go.Proofs.YtdmnddikcpfmfaaGreat
open Go.RowKit Go.Shelf
theorem rowsIn_round {l n : Nat} {P : Program} {row : String} {args : Array Value} {w : World} {R : Value → World → Prop} (h : Rows P row args w R) : RowsIn (Fence.wide.inRound l) n P row args w R :=
  fun c cs _ => let ⟨v, w', r, s⟩ := h c cs; ⟨v, w', r, stepsIn_wide.2 s⟩
theorem uponIn_round {l n : Nat} {P : Program} {o : Oper} {a : Act} {K K' : Act → World → Prop} {Q : Exit → Act → World → Prop} (hK : ∀ a w, K a w → K' a w) (r : Result Next) (h : o.upon P a K Q r) : o.uponIn (Fence.wide.inRound l) n P a K' Q r := by
  cases r with
  | ok x w' =>
    cases x with
    | value v => exact hK _ _ h
    | skip => exact hK _ _ h
    | defer d => exact hK _ _ h
    | enter f args =>
      refine ⟨(fun e => by cases e), CallsIn.inRound l (callsIn_wide.2 (Calls.mono h ?_))⟩
      intro e w'' he
      cases e with
      | returned v => exact hK _ _ he
      | panicked chain => exact he
      | outgrown => exact he
    | row row args => exact ⟨(fun e => by cases e), rowsIn_round (Rows.mono h fun v w'' he => hK _ _ he)⟩
    | round => exact h.elim
    | _ => exact h.elim
  | halt x w' =>
    cases x with
    | panic v => exact h
    | _ => exact h.elim
/-- Q, but 'False' at a panic and where it ends for want of room. -/
def NoBad (Q : Exit → Act → World → Prop) : Exit → Act → World → Prop
  | .panic _, _, _ => False
  | .outgrown, _, _ => False
  | e, a, w => Q e a w
theorem NoBad.imp {Q : Exit → Act → World → Prop} : ∀ (e : Exit) (a : Act) (w : World), NoBad Q e a w → Q e a w := fun e a w h => by
  cases e <;> first | exact h | exact (h : False).elim
theorem NoBad.normal {Q : Exit → Act → World → Prop} {a : Act} {w : World} (h : Q .normal a w) : NoBad Q .normal a w := h
theorem wpAnyIn_round {l n : Nat} {P : Program} {md : Region.Mode} {ops : Array Oper} {Q : Exit → Act → World → Prop} (hQ : ¬ LetsOut Q) (hd : ∀ (j : Nat) (o : Oper) c, ops[j]? = some o → o.op ≠ .defer c) : ∀ (fuel : Nat) (listed : Array Bool) (a : Act) (w : World),
    wpAny P md ops Q fuel listed a w → wpAnyIn (Fence.wide.inRound l) n P md ops Q fuel listed a w
  | 0, _, _, _, h => h
  | fuel + 1, listed, a, w, h => ⟨h.1, fun i hi => by
      have h2 := h.2 i hi
      unfold wpOp at h2
      unfold wpOpIn
      cases ho : ops[i]? with
      | none => rw [ho] at h2; exact wpAnyIn_round hQ hd fuel _ _ _ h2
      | some o =>
        rw [ho] at h2
        dsimp only at h2 ⊢
        by_cases hw : Region.wanted o (yielded ops a.tmps) = true
        · rw [if_pos hw] at h2 ⊢
          refine ⟨fun _ _ => trivial, ?_⟩
          rw [Oper.semAt_eq _ _ _ (fun c => hd i o c ho)]
          exact uponIn_round (fun a w h => wpAnyIn_round hQ hd fuel _ a w h) _ (h2.resolve_right fun h => hQ h.2)
        · rw [if_neg hw] at h2 ⊢
          exact ⟨fun _ _ => trivial, wpAnyIn_round hQ hd fuel _ _ _ h2⟩⟩
def noDefer (ops : Array Oper) : Bool := ops.all fun o => match o.op with | .defer _ => false | _ => true
theorem noDefer_spec {ops : Array Oper} (h : noDefer ops = true) (j : Nat) (o : Oper) (c : Call) (ho : ops[j]? = some o) : o.op ≠ .defer c := by
  intro e
  obtain ⟨hj, rfl⟩ := Array.getElem?_eq_some_iff.1 ho
  have := Array.all_eq_true.1 h j hj
  rw [e] at this
  cases this
/-- The law. -/
theorem wpIn_region_held_round {l n id : Nat} {P : Program} {ops : Array Oper} {Q : Exit → Act → World → Prop} {S : World → Prop} {a : Act} {w : World} (hm : P.follows .mixedOrders = true) (hd : noDefer ops = true) (hS : S w.drew)
    (h : S w.drew → wpAnyH P .any ops (NoBad Q) S ops.size (Array.replicate ops.size false) a w.drew) : (Code.region id ops true).wpIn (Fence.wide.inRound l) n P Q a w :=
  wpIn_mono (wpIn_region_any hm (wpAnyIn_round (fun ⟨_, _, h⟩ => h) (noDefer_spec hd) _ _ _ _ (wpAny_of_held _ _ _ _ (h hS)))) NoBad.imp
end Go.Proofs.YtdmnddikcpfmfaaGreat
