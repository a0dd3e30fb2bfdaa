/-
  What begin does: an operation is counted, and its event is taken.
-/
import Derived.Test.YthafcnilhloldaaNChip
namespace Go.Proofs.Ythafcnilhloldaa
open Go.RowKit
/-- The event of operation n, of those that are to come. -/
def nextEv (es : List Ev) (n : Nat) : Ev := match es with | e :: _ => if e.at' = (n : Int) then e else noEv | [] => noEv
/-- The events that are to come behind operation n. -/
def restEv (es : List Ev) (n : Nat) : List Ev := match es with | e :: r => if e.at' = (n : Int) then r else e :: r | [] => []
/-- Whether the power is there behind operation n. -/
def onEv (es : List Ev) (n : Nat) (on : Bool) : Bool := match es with | e :: _ => if e.at' = (n : Int) then e.kind != 2 else on | [] => on
/-- An event as a value. -/
def evVal (e : Ev) (q : Option Addr) (m d : Nat) : Value := .agg #[.int .i64 e.at', .int .i64 e.kind, .slice q m d]
theorem zeroEv (w : World) : (zeroValue 72).run Try.prog w = .ok (.agg #[.int .i64 0, .int .i64 0, .slice none 0 0]) w := by
  have h : (Try.prog.info? 72).map (fun i => (i.zero, i.size)) = some (some (.agg #[.int .i64 0, .int .i64 0, .slice none 0 0]), 3) := by kernel_rfl
  exact (zero_of_info h).1 w
theorem EvsIn.head {S : Nat → Prop} {w : World} {p : Option Addr} {n c : Nat} {e : Ev} {r : List Ev} (h : EvsIn S w p n c (e :: r)) : ∃ b o q m d, p = some ⟨b, o, none⟩ ∧ b < w.heap.size ∧ ¬ S b ∧
    w.cell? ⟨b, o, none⟩ = some (.int .i64 e.at') ∧ w.cell? ⟨b, o + 1, none⟩ = some (.int .i64 e.kind) ∧ w.cell? ⟨b, o + 2, none⟩ = some (.slice q m d) ∧ In w q m d e.mask ∧ ∀ a, 0 < m → q = some a → ¬ S a.block := by
  obtain ⟨b, o, hp, hlt, hS, hc⟩ := h.at' (by rw [← h.len]; simp)
  obtain ⟨q, m, d, h1, h2, h3, h4, h5⟩ := hc 0 e rfl
  exact ⟨b, o, q, m, d, hp, hlt, hS, by simpa using h1, by simpa using h2, by simpa using h3, h4, h5⟩
theorem EvsIn.tail {S : Nat → Prop} {w : World} {b o n c : Nat} {e : Ev} {r : List Ev} (h : EvsIn S w (some ⟨b, o, none⟩) n c (e :: r)) : EvsIn S w (if c = 1 then some ⟨b, o, none⟩ else some ⟨b, o + 3, none⟩) (n - 1) (c - 1) r := by
  have hl := h.len
  have hc := h.cap
  have hm := h.max
  simp only [List.length_cons] at hl
  refine ⟨by omega, by omega, by omega, fun h0 => ?_⟩
  obtain ⟨b', o', hp, hlt, hS, hcell⟩ := h.at' (by omega)
  cases hp
  rw [if_neg (by omega)]
  refine ⟨b, o + 3, rfl, hlt, hS, fun i x hx => ?_⟩
  obtain ⟨q, m, d, h1, h2, h3, h4, h5⟩ := hcell (i + 1) x (by simpa using hx)
  have e0 : o + (i + 1) * 3 = o + 3 + i * 3 := by omega
  rw [e0] at h1 h2 h3
  exact ⟨q, m, d, h1, h2, h3, h4, h5⟩
theorem evVal_toArray (e : Ev) (q : Option Addr) (m d : Nat) : evVal e q m d = .agg [Value.int .i64 e.at', .int .i64 e.kind, .slice q m d].toArray := rfl
/-- A function whose one result lies in a cell, an event. -/
theorem ret_ev {fn : Func} {p : Tmp} (h : fn.results = #[.cell p 72]) {R : Ending → World → Prop} {a : Act} {w : World} {g : Nat} {t : TypeId} {x y z : Value} (hp : a.tmps.getD p undef = .pointer (some ⟨g, 0, none⟩))
    (hb : Blk w g t [x, y, z]) (hd : a.defers = []) (hR : R (.returned (.agg #[x, y, z])) w) : bodyPost Try.prog fn R .ret a w :=
  bodyPost_ret (results_cell_row h _ _ g t #[x, y, z] (0, 0) _ hp hb Try.underlying72 rfl (by kernel_rfl)) hd hR
theorem sizeEv {x y z : Value} : (Try.prog.info? 72).map (·.size) = some [x, y, z].length := by kernel_rfl
theorem Keep.setCell {S : Nat → Prop} {w0 w : World} (h : Keep S w0 w) (a : Addr) (v : Value) (ha : S a.block) : Keep S w0 (w.setCell a v) := h.trans (Keep.of_turned (S := S) (Turned.setCell w a v) ha) (fun _ _ e => e)
theorem Keep.alloc {S : Nat → Prop} {w0 w : World} (h : Keep S w0 w) (o : Obj) : Keep S w0 (w.alloc o) := h.trans (Keep.of_below (S := fun _ => False) (below_alloc w o)) (fun _ _ e => e.elim)
theorem Keep.drewN {S : Nat → Prop} {w w' : World} (h : Keep S w w') (n : Nat) : Keep S w (w'.drewN n) := ⟨h.os, h.tape, h.output, h.size, h.block⟩
theorem Keep.fresh {S T : Nat → Prop} {w w' w'' : World} (h : Keep S w w') (k : Keep T w' w'') (hT : ∀ j, j < w.heap.size → ¬ T j) : Keep S w w'' := h.trans k (fun j hj e => (hT j hj e).elim)
theorem slice_evs (b o n c : Nat) (h : 0 < n) : ∀ W : World,
    (Instr.slice 25 (.slice (some ⟨b, o, none⟩) n c) (some (.int .i64 1)) none none).run Try.prog W = .ok (.slice (if c = 1 then some ⟨b, o, none⟩ else some ⟨b, o + 3, none⟩) (n - 1) (c - 1)) W := by
  intro W
  have h1 : (1 : Nat) ≤ n := h
  by_cases hc1 : c = 1
  · simp [Instr.slice, Instr.sliceBounds, Instr.sliceBound, run_underlying Try.underlying25, asIntOf, hc1]
    omega
  · simp [Instr.slice, Instr.sliceBounds, Instr.sliceBound, run_underlying Try.underlying25, asIntOf, hc1, addr_add]
    omega
theorem range3 {w : World} {b o : Nat} {x y z : Value} (h1 : w.cell? ⟨b, o, none⟩ = some x) (h2 : w.cell? ⟨b, o + 1, none⟩ = some y) (h3 : w.cell? ⟨b, o + 2, none⟩ = some z) : w.rangeAt b o [x, y, z] := by
  intro j v hv
  match j, hv with
  | 0, hv => simp at hv; subst hv; simpa using h1
  | 1, hv => simp at hv; subst hv; exact h2
  | 2, hv => simp at hv; subst hv; exact h3
  | j + 3, hv => simp at hv
theorem evs_one {x y : Int} {q : Option Addr} {m d : Nat} : ∀ v ∈ [Value.int .i64 x, Value.int .i64 y, Value.slice q m d], v.oneCell' = true := fun v hv => by simp at hv; rcases hv with rfl | rfl | rfl <;> rfl
set_option maxHeartbeats 400000 in
theorem begin_any (c nb np : Nat) (bs : Value) (ep : Option Addr) (el ec ops : Nat) (on : Bool) (es : List Ev) (S : Nat → Prop) (w : World) (hB : Blk w c 82 (chipCells nb np bs (.slice ep el ec) ops on)) (hE : EvsIn S w ep el ec es) (hS : S c) (ho : ops < 4611686018427387904) :
    Calls Try.prog 38 #[.pointer (some ⟨c, 0, none⟩)] w fun e w' => ∃ q m d, e = .returned (evVal (nextEv es (ops + 1)) q m d) ∧ In w' q m d (nextEv es (ops + 1)).mask ∧ (∀ a, 0 < m → q = some a → ¬ S a.block) ∧ Keep (fun k => k = c) w w' ∧
      ∃ ep' el' ec', Blk w' c 82 (chipCells nb np bs (.slice ep' el' ec') (ops + 1) (onEv es (ops + 1) on)) ∧ EvsIn S w' ep' el' ec' (restEv es (ops + 1)) := by
  have hz := zeroEv
  have hc4 := hB.cell' (i := 4) rfl
  have hf4 := hB.frozen 4
  have hlt := hB.lt
  have hK1 := ((Keep.refl (fun k => k = c) w).setCell ⟨c, 4, none⟩ (.int .i64 ((ops : Int) + 1)) rfl).alloc (.cells #[.int .i64 0, .int .i64 0, .slice none 0 0] 72)
  have hB1 : Blk ((w.setCell ⟨c, 4, none⟩ (.int .i64 ((ops : Int) + 1))).alloc (.cells #[.int .i64 0, .int .i64 0, .slice none 0 0] 72)) c 82 (chipCells nb np bs (.slice ep el ec) (ops + 1) on) := (hB.set 4 _).alloc _
  have hN1 : Blk ((w.setCell ⟨c, 4, none⟩ (.int .i64 ((ops : Int) + 1))).alloc (.cells #[.int .i64 0, .int .i64 0, .slice none 0 0] 72)) w.heap.size 72 [.int .i64 0, .int .i64 0, .slice none 0 0] := by
    have := Blk.new' (w.setCell ⟨c, 4, none⟩ (.int .i64 ((ops : Int) + 1))) 72 #[.int .i64 0, .int .i64 0, .slice none 0 0]
    rwa [(Turned.setCell w ⟨c, 4, none⟩ (.int .i64 ((ops : Int) + 1))).size] at this
  have hE1 := hE.keep hK1 (fun k _ e => e ▸ hS)
  cases es with
  | nil =>
    have hl : el = 0 := hE.len.symm
    subst hl
    go_enter Try.func38, Try.ntmps38
    go_wp2
    generalize (w.setCell ⟨c, 4, none⟩ (.int .i64 ((ops : Int) + 1))).alloc (.cells #[.int .i64 0, .int .i64 0, .slice none 0 0] 72) = w1 at *
    have hc3 := hB1.cell' (i := 3) rfl
    clear hB hc4 hf4
    go_quiet (fail)
    go_wp2_with (refine wpList_store_blk rfl 72 _ _ rfl _ _ [.int .i64 0, .int .i64 0, .slice none 0 0] rfl rfl (hN1.drewN _) (Nat.le_refl _) sizeEv evs_one ?_; intro w2 h2 ht2)
    have k2 : Keep (fun k => k = c) w w2 := (hK1.drewN _).fresh (Keep.of_turned (S := fun k => k = w.heap.size) ht2 rfl) (fun j hj e => by omega)
    exact ret_ev Try.results38 rfl h2 rfl ⟨none, 0, 0, rfl, In.empty _, fun a h0 => by omega, k2, ep, 0, ec, (hB1.drewN _).turned ht2 (by omega), hE.keep k2 (fun k _ e => e ▸ hS)⟩
  | cons e r =>
    have hl0 : 0 < el := by have := hE.len; simp at this; omega
    have hle := hE.cap
    have hmx := hE.max
    obtain ⟨b, o, q, m, d, rfl, hb0, hSb, p1, p2, p3, p4, g5⟩ := hE.head
    have hbc := hK1.block b hb0 (fun e => hSb (e ▸ hS))
    have g1 := (World.cell?_of_block (a := ⟨b, o, none⟩) hbc).trans p1
    have g2 := (World.cell?_of_block (a := ⟨b, o + 1, none⟩) hbc).trans p2
    have g3 := (World.cell?_of_block (a := ⟨b, o + 2, none⟩) hbc).trans p3
    clear p1 p2 p3 hbc
    have hel : ((el : Int) == 0) = false := by simp; omega
    by_cases hat : e.at' = (ops : Int) + 1
    · have n1 : nextEv (e :: r) (ops + 1) = e := by simp [nextEv, hat]
      have n2 : restEv (e :: r) (ops + 1) = r := by simp [restEv, hat]
      have n3 : onEv (e :: r) (ops + 1) on = (e.kind != 2) := by simp [onEv, hat]
      rw [n1, n2, n3]
      have hne : (e.at' != (ops : Int) + 1) = false := by simp [hat]
      clear n1 n2 n3
      go_enter Try.func38, Try.ntmps38
      go_wp2
      generalize (w.setCell ⟨c, 4, none⟩ (.int .i64 ((ops : Int) + 1))).alloc (.cells #[.int .i64 0, .int .i64 0, .slice none 0 0] 72) = w1 at *
      have hc3 := hB1.cell' (i := 3) rfl
      have hc4' := hB1.cell' (i := 4) rfl
      have hc4'' : w1.cell? ⟨c, 4, none⟩ = some (.int .i64 ((ops : Int) + 1)) := hc4'
      clear hB hc4 hf4 hc4' hat
      go_quiet (fail)
      obtain ⟨A, hA0⟩ : ∃ A, (if ec = 1 then some (⟨b, o, none⟩ : Addr) else some ⟨b, o + 3, none⟩) = A := ⟨_, rfl⟩
      have hsl := slice_evs b o el ec hl0
      simp only [hA0] at hsl
      have hA : Hid ((if ec = 1 then some (⟨b, o, none⟩ : Addr) else some ⟨b, o + 3, none⟩) = A) := hA0
      clear hA0
      have hB1' := hB1.drewN nq
      have hN1' := hN1.drewN nq
      have hK1' := hK1.drewN nq
      have g1' : (w1.drewN nq).cell? ⟨b, o, none⟩ = some (.int .i64 e.at') := g1
      have g2' : (w1.drewN nq).cell? ⟨b, o + 1, none⟩ = some (.int .i64 e.kind) := g2
      have g3' : (w1.drewN nq).cell? ⟨b, o + 2, none⟩ = some (.slice q m d) := g3
      generalize w1.drewN nq = w2 at *
      clear hB1 hN1 hE1 hK1 hc3 g1 g2 g3 hc4'' hne hel
      have hcN : c ≠ w.heap.size := by omega
      have hN2 : w.heap.size < w2.heap.size := hN1'.lt
      have hc2 : c < w2.heap.size := hB1'.lt
      have c3 := hB1'.cell' (i := 3) rfl
      have f3 := hB1'.frozen 3
      have c5 := hB1'.cell' (i := 5) rfl
      have f5 := hB1'.frozen 5
      have n0 := hN1'.cell' (i := 0) rfl
      have n1 := hN1'.cell' (i := 1) rfl
      have n2 := hN1'.cell' (i := 2) rfl
      have m0 := hN1'.frozen 0
      have m1 := hN1'.frozen 1
      have m2 := hN1'.frozen 2
      go_wp2
      have k5 := (((((hK1'.setCell ⟨c, 3, none⟩ (.slice A (el - 1) (ec - 1)) rfl).setCell ⟨c, 5, none⟩ (.bool (e.kind != 2)) rfl).fresh (Keep.of_turned (S := fun k => k = w.heap.size) (Turned.setCell _ ⟨w.heap.size, 0, none⟩ (.int .i64 e.at')) rfl) (fun j hj e => by omega)).fresh (Keep.of_turned (S := fun k => k = w.heap.size) (Turned.setCell _ ⟨w.heap.size, 1, none⟩ (.int .i64 e.kind)) rfl) (fun j hj e => by omega)).fresh (Keep.of_turned (S := fun k => k = w.heap.size) (Turned.setCell _ ⟨w.heap.size, 2, none⟩ (.slice q m d)) rfl) (fun j hj e => by omega)).alloc (.cells #[.int .i64 e.at', .int .i64 e.kind, .slice q m d] 72)
      have hBf := (((((hB1'.set 3 (.slice A (el - 1) (ec - 1))).set 5 (.bool (e.kind != 2))).setOther ⟨w.heap.size, 0, none⟩ (.int .i64 e.at') hcN).setOther ⟨w.heap.size, 1, none⟩ (.int .i64 e.kind) hcN).setOther ⟨w.heap.size, 2, none⟩ (.slice q m d) hcN).alloc (.cells #[.int .i64 e.at', .int .i64 e.kind, .slice q m d] 72)
      have hNf := (((((hN1'.setOther ⟨c, 3, none⟩ (.slice A (el - 1) (ec - 1)) hcN.symm).setOther ⟨c, 5, none⟩ (.bool (e.kind != 2)) hcN.symm).set 0 (.int .i64 e.at')).set 1 (.int .i64 e.kind)).set 2 (.slice q m d)).alloc (.cells #[.int .i64 e.at', .int .i64 e.kind, .slice q m d] 72)
      have hcb : ∀ k, k = c → S k := fun k e => e ▸ hS
      have hEf := (hE.keep k5 (fun k _ e => hcb k e)).tail
      rw [hA.out] at hEf
      have hmask := p4.same k5.size (fun a h0 ha hl => k5.block _ hl (fun e => g5 a h0 ha (hcb _ e)))
      have hNf' : Blk _ w.heap.size 72 [.int .i64 e.at', .int .i64 e.kind, .slice q m d] := hNf
      exact ret_ev Try.results38 rfl hNf' rfl ⟨q, m, d, rfl, hmask, g5, k5, A, _, _, hBf, hEf⟩
    · have n1 : nextEv (e :: r) (ops + 1) = noEv := by simp [nextEv]; intro h; exact absurd h hat
      have n2 : restEv (e :: r) (ops + 1) = e :: r := by simp [restEv]; intro h; exact absurd h hat
      have n3 : onEv (e :: r) (ops + 1) on = on := by simp [onEv]; intro h; exact absurd h hat
      rw [n1, n2, n3]
      have hne : (e.at' != (ops : Int) + 1) = true := by simpa using hat
      clear n1 n2 n3
      go_enter Try.func38, Try.ntmps38
      go_wp2
      generalize (w.setCell ⟨c, 4, none⟩ (.int .i64 ((ops : Int) + 1))).alloc (.cells #[.int .i64 0, .int .i64 0, .slice none 0 0] 72) = w1 at *
      have hc3 := hB1.cell' (i := 3) rfl
      have hc4' := hB1.cell' (i := 4) rfl
      have hc4'' : w1.cell? ⟨c, 4, none⟩ = some (.int .i64 ((ops : Int) + 1)) := hc4'
      clear hB hc4 hf4 hc4' hat
      go_quiet (fail)
      go_wp2_with (refine wpList_store_blk rfl 72 _ _ rfl _ _ [.int .i64 0, .int .i64 0, .slice none 0 0] rfl rfl (hN1.drewN _) (Nat.le_refl _) sizeEv evs_one ?_; intro w2 h2 ht2)
      have k2 : Keep (fun k => k = c) w w2 := (hK1.drewN _).fresh (Keep.of_turned (S := fun k => k = w.heap.size) ht2 rfl) (fun j hj e => by omega)
      exact ret_ev Try.results38 rfl h2 rfl ⟨none, 0, 0, rfl, In.empty _, fun a h0 => by omega, k2, _, el, ec, (hB1.drewN _).turned ht2 (by omega), hE.keep k2 (fun k _ e => e ▸ hS)⟩
end Go.Proofs.Ythafcnilhloldaa
