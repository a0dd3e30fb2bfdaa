/-
  A disk's log, and the iterator over it.
-/
import Derived.Test.YtbnnekpglnnneaaDkLast
import Derived.Test.YtbnnekpglnnneaaDkReads
import Derived.Test.YtbnnekpglnnneaaDkRound
namespace Go.Proofs.Ytbnnekpglnnneaa
open Go.RowKit Go.Shelf
attribute [local go_sem] Oper.semAt_some
theorem wpListIn_load_mid {F : Fence} {n : Nat} {ops : Array Oper} {rest : List Oper} {op : Oper} {a : Act} {w : World} {Q : Exit → Act → World → Prop} (hgd : op.guard = none) (ty : TypeId) (x : Operand) (ho : op.op = .load ty x)
    (b o : Nat) (hx : a.eval x = .pointer (some ⟨b, o, none⟩)) (cs : List Value) (d : TypeDesc) (hc : w.rangeAt b o cs)
    (hu : Try.prog.underlying ty = some d) (hd : d.isRow = true) (hi : (Try.prog.info? ty).map (·.size) = some cs.length)
    (h : wpListIn F n Try.prog ops Q rest (a.put op.dst (.agg cs.toArray)) w) : wpListIn F n Try.prog ops Q (op :: rest) a w := by
  refine wpListIn_plain hgd fun K hK => ?_
  unfold Oper.wpIn
  refine ⟨?_, ?_⟩
  · simp [Oper.about, ho]
  · rw [Oper.semAt_plain F _ _ (by rw [ho]; intro c hc'; cases hc')]
    simp only [execOp, ho, hx, Instr.loadAt, Instr.sureAddr, Sem.run_bind, Sem.run_pure, Result.andThen_ok, run_loadVar_mid w b o ty cs d hc hu hd hi]
    exact hK _ _ h
theorem wpListIn_store_new {F : Fence} {n : Nat} {ops : Array Oper} {rest : List Oper} {op : Oper} {a : Act} {w : World} {Q : Exit → Act → World → Prop} (hgd : op.guard = none) (ty : TypeId) (x y : Operand) (ho : op.op = .store ty x y)
    (c c' : List Value) (hx : a.eval x = .pointer (some ⟨w.heap.size, 0, none⟩)) (hy : a.eval y = .agg c'.toArray) (hi : (Try.prog.info? ty).map (·.size) = some c'.length) (hl : c.length = c'.length) (h1 : ∀ v ∈ c', v.oneCell' = true)
    (h : wpListIn F n Try.prog ops Q rest (a.put op.dst undef) (w.alloc (.cells c'.toArray ty))) : wpListIn F n Try.prog ops Q (op :: rest) a (w.alloc (.cells c.toArray ty)) := by
  have hr := run_storeVar_new (P := Try.prog) w ty c.toArray c'.toArray (by simpa using hi) (by simpa using hl) (all_oneCell_toArray h1)
  refine wpListIn_plain hgd fun K hK => ?_
  unfold Oper.wpIn
  refine ⟨?_, ?_⟩
  · simp [Oper.about, ho]
  · rw [Oper.semAt_plain F _ _ (by rw [ho]; intro c hc'; cases hc')]
    simp only [execOp, ho, hx, hy, Instr.storeAt, Instr.sureAddr, Sem.run_bind, Sem.run_pure, Result.andThen_ok, hr]
    exact hK _ _ h
theorem zeroWr (w : World) : (zeroValue 87).run Try.prog w = .ok (.agg (wrV (0, z256)).toArray) w := by
  have h : (Try.prog.info? 87).map (fun i => (i.zero, i.size)) = some (some (.agg (wrV (0, z256)).toArray), 257) := by kernel_rfl
  exact (zero_of_info h).1 w
theorem sizeWr {x : Nat × List Nat} (h : x.2.length = 256) : (Try.prog.info? 87).map (·.size) = some (wrV x).length := by
  rw [wrV_length h]; kernel_rfl
/-- A write that the iterator yields. -/
structure FedL where
  k : Nat
  p : Option Addr
  c : Nat
  D : List Nat
def encL (x : FedL) : Array Value := #[.int .i64 (x.k : Int), .slice x.p 256 x.c]
def GvL (x : FedL) (W : World) : Prop := In W x.p 256 x.c x.D
structure KpL (v : Value) (W W' : World) : Prop where
  same : ∀ k, v.ownBlock = some k → W'.heap[k]? = W.heap[k]?
  size : W.heap.size ≤ W'.heap.size
theorem KpL.refl (v : Value) (W : World) : KpL v W W := ⟨fun _ _ => rfl, Nat.le_refl _⟩
theorem KpL.trans {v : Value} {A B C : World} (h : KpL v A B) (k : KpL v B C) : KpL v A C := ⟨fun j hj => (k.same j hj).trans (h.same j hj), Nat.le_trans h.size k.size⟩
def fedW (x : FedL) : Nat × List Nat := (x.k, x.D)
theorem flatW_at {w : World} {g cap : Nat} {L : List (Nat × List Nat)} (h : w.ownsRow 0 87 257 (.slice (some ⟨g, 0, none⟩) L.length cap) L.length (flatW L)) (ok : ∀ x ∈ L, Is x.2) {k : Nat} {x : Nat × List Nat} (hx : L[k]? = some x) : w.rangeAt g (k * 257) (wrV x) := by
  intro j u hj
  have hk : k < L.length := (List.getElem?_eq_some_iff.1 hx).1
  have hjl : j < 257 := by have := (List.getElem?_eq_some_iff.1 hj).1; rwa [wrV_length (ok x (List.mem_of_getElem? hx)).1] at this
  have hg := flat_get wrV 257 L (fun y hy => wrV_length (ok y hy).1) k x hx
  rw [h.cellAt (k * 257 + j) (by have : (k + 1) * 257 ≤ L.length * 257 := Nat.mul_le_mul_right _ hk; omega)]
  rw [← hg, List.getElem?_take_of_lt hjl, List.getElem?_drop] at hj
  exact hj
set_option linter.unusedSimpArgs false in
set_option maxRecDepth 100000 in
set_option maxHeartbeats 2000000 in
theorem log1_in (nf : Nat) (hn : 2 ≤ nf) (l Bs : Nat) (q : Option Addr) (cq : Nat) (L : List (Nat × List Nat)) (ok : ∀ x ∈ L, Is x.2) (hL : L.length ≤ 1024) (J Jx : List FedL → World → Prop) (W : World) (hJ : AbidesFrom W.heap.size J)
    (hown : W.ownsRow 0 87 257 (.slice q L.length cq) L.length (flatW L)) (hBs : W.cell? ⟨Bs, 0, none⟩ = some (.slice q L.length cq))
    (hY : ∀ pre x W1, J pre W1 → GvL x W1 → W.heap.size ≤ W1.heap.size → pre.length < L.length → YieldAt Fence.wide (nf - 1) Try.prog l (encL x) W1 fun e W' =>
      (e = .returned (.bool true) ∧ J (pre ++ [x]) W' ∧ KpL (.slice q L.length cq) W1 W') ∨ (e = .returned (.bool false) ∧ Jx (pre ++ [x]) W')) (h0 : J [] W) :
    CallsIn Fence.wide nf Try.prog 55 #[.func (.yield l) #[] #[], .pointer (some ⟨Bs, 0, none⟩)] W fun e W' => (∃ v, e = .returned v) ∧
      ((∃ ys, ys.map fedW = L ∧ J ys W') ∨ (∃ pre, (∃ k, k < L.length ∧ pre.map fedW = L.take (k + 1)) ∧ Jx pre W')) := by
  have hn1 : 1 ≤ nf := by omega
  have hLi : (L.length : Int) ≤ 1024 := by omega
  have hz := zeroWr
  refine callsIn_of_wp Try.func55 rfl trivial ?_ rfl
  simp only [Try.ntmps55, List.size_toArray, List.length_cons, List.length_nil, Nat.reduceAdd, Nat.reduceSub, Array.replicate_succ, Array.replicate_zero, List.push_toArray, List.append_toArray, List.nil_append, List.cons_append]
  gi_wp2
  gi_loopw [7] (fun i wr => ∃ (k : Nat) (pre : List FedL), k ≤ L.length ∧ i = .int .i64 (k : Int) ∧ Hid (pre.map fedW = L.take k) ∧ J pre wr ∧ KpL (.slice q L.length cq) W wr) (fun i _ => L.length - (intOf i).toNat)
  case atStart => exact ⟨0, [], Nat.zero_le _, rfl, rfl, h0, KpL.refl _ _⟩
  case round =>
    obtain ⟨k, pre, hk, rfl, hpre, hJs, hkr⟩ := hrel
    by_cases hkn : k < L.length
    · have hki : (k : Int) < (L.length : Int) := by omega
      have hown1 := owns_same hown hkr.same
      obtain ⟨g, cap, hv, hglt, _⟩ := owns_at hown1 (by omega)
      cases hv
      obtain ⟨x, hx⟩ : ∃ x, L[k]? = some x := ⟨_, List.getElem?_eq_getElem hkn⟩
      have hr := flatW_at hown1 ok hx
      have hxl := ok x (List.mem_of_getElem? hx)
      have hlen : pre.length < L.length := by have := congrArg List.length hpre.out; rw [List.length_map, List.length_take] at this; omega
      have HU : Hid (L.take (k + 1) = L.take k ++ [x]) := by show _ = _; rw [List.take_add_one, hx]; rfl
      have hb1 := below_alloc wr (.cells (wrV x).toArray 87)
      have g1 := Blk.new wr 87 (wrV x)
      have hin1 : In (wr.alloc (.cells (wrV x).toArray 87)) (some ⟨wr.heap.size, 1, none⟩) 256 256 x.2 := ⟨hxl.1, Nat.le_refl _, by unfold maxLen; omega, by omega, hxl.2, fun _ => ⟨wr.heap.size, 1, rfl, g1.lt, fun j hj => g1.cell' (by
        rw [wrV, Nat.add_comm, List.getElem?_cons_succ, vals_get _ _ (by rw [hxl.1]; exact hj)])⟩, fun h => by cases h⟩
      have hc0 : (wr.alloc (.cells (wrV x).toArray 87)).cell? ⟨wr.heap.size, 0, none⟩ = some (.int .i64 (x.1 : Int)) := g1.cell' rfl
      have hJ1 : J pre (wr.alloc (.cells (wrV x).toArray 87)) := hJ _ _ _ none hJs (World.grownBy_alloc _ _ _) (fun r e => by cases e)
      have hsl := fun W : World => slice_arr wr.heap.size 1 W
      gi_wp2_with (first
        | (refine wpListIn_load_mid rfl 87 (.tmp 9) rfl g (k * 257) rfl (wrV x) _ hr Try.underlying87 rfl (sizeWr hxl.1) ?_)
        | (refine wpListIn_store_new rfl 87 (.tmp 4) (.tmp 10) rfl (wrV (0, z256)) (wrV x) rfl rfl (sizeWr hxl.1) (by rw [wrV_length z256_length, wrV_length hxl.1]) (wrV_one _) ?_))
      generalize hw1 : wr.alloc (.cells (wrV x).toArray 87) = w1 at *
      refine wpIn_region_any (by kernel_rfl) ?_
      change wpAnyIn _ _ _ _ _ _ _ _ _ (World.drew _)
      refine wpAnyIn_take (i := 0) (v := ?_) rfl rfl (by kernel_rfl) (by kernel_rfl) (by kernel_rfl) (fun _ _ _ h => h) ⟨Or.inl ⟨by rfl, ?_⟩, fun _ => rfl⟩ ?_
      rotate_left
      · intro w'
        go_simp; try (with_reducible rfl)
      try simp only [Act.put, List.getElem_toArray, List.getElem_cons_succ, List.getElem_cons_zero, List.setIfInBounds_toArray, List.set_cons_zero, List.set_cons_succ]
      refine wpAnyIn_take (i := 1) (v := ?_) rfl rfl (by kernel_rfl) (by kernel_rfl) (by kernel_rfl) (fun _ _ _ h => h) ⟨Or.inl ⟨by rfl, ?_⟩, fun _ => rfl⟩ ?_
      rotate_left
      · intro w'
        go_simp; try (with_reducible rfl)
      try simp only [Act.put, List.getElem_toArray, List.getElem_cons_succ, List.getElem_cons_zero, List.setIfInBounds_toArray, List.set_cons_zero, List.set_cons_succ]
      refine wpAnyIn_take (i := 3) (v := ?_) rfl rfl (by kernel_rfl) (by kernel_rfl) (by kernel_rfl) (fun _ _ _ h => h) ⟨Or.inl ⟨by rfl, ?_⟩, fun _ => rfl⟩ ?_
      rotate_left
      · intro w'
        go_simp; try (with_reducible rfl)
      try simp only [Act.put, List.getElem_toArray, List.getElem_cons_succ, List.getElem_cons_zero, List.setIfInBounds_toArray, List.set_cons_zero, List.set_cons_succ]
      refine wpAnyIn_take (i := 4) (v := ?_) rfl rfl (by kernel_rfl) (by kernel_rfl) (by kernel_rfl) (fun _ _ _ h => h) ⟨Or.inl ⟨by rfl, ?_⟩, fun _ => rfl⟩ ?_
      rotate_left
      · intro w'
        go_simp; try (with_reducible rfl)
      try simp only [Act.put, List.getElem_toArray, List.getElem_cons_succ, List.getElem_cons_zero, List.setIfInBounds_toArray, List.set_cons_zero, List.set_cons_succ]
      have hlt1 : wr.heap.size < w1.heap.size := g1.lt
      refine wpAnyIn_ready (rs := [2, 5]) (by kernel_rfl) (by simp) ?_
      refine AllReadyIn.cons rfl (fun K hK => ?_) ?_
      · go_simp
        refine hK _ _ ?_
        clear hK K
        try simp only [Act.put, List.getElem_toArray, List.getElem_cons_succ, List.getElem_cons_zero, List.setIfInBounds_toArray, List.set_cons_zero, List.set_cons_succ]
        refine wpAnyIn_ready (rs := [5]) (by kernel_rfl) (by simp) ?_
        refine AllReadyIn.cons rfl (fun K hK => ?_) AllReadyIn.nil
        go_simp
        refine ⟨trivial, ?_⟩
        refine (callsIn_wide.2 (cloneB_new _ 256 256 x.2 w1.drew (hin1.below ((Below.refl _ w1).drew)))).mono ?_
        rintro e w3 ⟨p3, c3, rfl, hin3, hb3, _⟩
        refine hK _ _ ?_
        clear hK K
        try simp only [Act.put, List.getElem_toArray, List.getElem_cons_succ, List.getElem_cons_zero, List.setIfInBounds_toArray, List.set_cons_zero, List.set_cons_succ]
        have hb3' : Below w1.heap.size w1 w3 := bt ((Below.refl _ w1).drew) hb3
        obtain ⟨fn, tmps, assign, bd, hy, hR⟩ := hY pre ⟨x.1, p3, c3, x.2⟩ w3 (hJ _ _ _ none hJ1 (grown_below hb3') (fun r e => by cases e)) hin3 (Nat.le_trans (Nat.le_trans hkr.size hb1.size) hb3'.size) hlen
        dsimp only [encL] at hy
        have hk3 : KpL (.slice (some ⟨g, 0, none⟩) L.length cq) wr w3 := ⟨fun j hj => (hb3'.block j (Nat.lt_trans (by cases hj; exact hglt) hlt1)).trans (hb1.block j (by cases hj; exact hglt)), Nat.le_trans hb1.size hb3'.size⟩
        refine wpAnyIn_ready (rs := [6]) (by kernel_rfl) (by simp) ?_
        refine AllReadyIn.cons rfl (fun K hK => ?_) AllReadyIn.nil
        go_simp
        refine hR.mono ?_
        rintro e W3 (⟨rfl, hJ3, hk4⟩ | ⟨rfl, hJx3⟩)
        · refine hK _ _ ?_
          clear hK K
          try simp only [Act.put, List.getElem_toArray, List.getElem_cons_succ, List.getElem_cons_zero, List.setIfInBounds_toArray, List.set_cons_zero, List.set_cons_succ]
          refine wpAnyIn_take (i := 7) (v := ?_) rfl rfl (by kernel_rfl) (by kernel_rfl) (by kernel_rfl) (fun _ _ _ h => h) ⟨Or.inl ⟨by rfl, ?_⟩, fun _ => rfl⟩ ?_
          rotate_left
          · intro w'
            go_simp; try (with_reducible rfl)
          try simp only [Act.put, List.getElem_toArray, List.getElem_cons_succ, List.getElem_cons_zero, List.setIfInBounds_toArray, List.set_cons_zero, List.set_cons_succ]
          refine wpAnyIn_done (by kernel_rfl) ?_ _
          gi_wp2
          go_roundw
          case rel => exact ⟨k + 1, _, by omega, by simp, by show _ = _; rw [List.map_append, hpre.out, HU.out]; rfl, hJ3, (hkr.trans hk3).trans hk4⟩
          case measure => simp [intOf]; omega
        · refine hK _ _ ?_
          clear hK K
          try simp only [Act.put, List.getElem_toArray, List.getElem_cons_succ, List.getElem_cons_zero, List.setIfInBounds_toArray, List.set_cons_zero, List.set_cons_succ]
          refine wpAnyIn_take (i := 7) (v := ?_) rfl rfl (by kernel_rfl) (by kernel_rfl) (by kernel_rfl) (fun _ _ _ h => h) ⟨Or.inl ⟨by rfl, ?_⟩, fun _ => rfl⟩ ?_
          rotate_left
          · intro w'
            go_simp; try (with_reducible rfl)
          try simp only [Act.put, List.getElem_toArray, List.getElem_cons_succ, List.getElem_cons_zero, List.setIfInBounds_toArray, List.set_cons_zero, List.set_cons_succ]
          refine wpAnyIn_done (by kernel_rfl) ?_ _
          gi_wp2
          refine bodyPost_ret (results_none rfl _ _ _) rfl ?_
          exact ⟨⟨_, rfl⟩, .inr ⟨_, ⟨k, hkn, by rw [List.map_append, hpre.out, HU.out]; rfl⟩, hJx3⟩⟩
      refine AllReadyIn.cons rfl (fun K hK => ?_) AllReadyIn.nil
      go_simp
      refine ⟨trivial, ?_⟩
      refine (callsIn_wide.2 (cloneB_new _ 256 256 x.2 w1.drew (hin1.below ((Below.refl _ w1).drew)))).mono ?_
      rintro e w3 ⟨p3, c3, rfl, hin3, hb3, _⟩
      refine hK _ _ ?_
      clear hK K
      try simp only [Act.put, List.getElem_toArray, List.getElem_cons_succ, List.getElem_cons_zero, List.setIfInBounds_toArray, List.set_cons_zero, List.set_cons_succ]
      have hb3' : Below w1.heap.size w1 w3 := bt ((Below.refl _ w1).drew) hb3
      have hc3 : w3.cell? ⟨wr.heap.size, 0, none⟩ = some (.int .i64 (x.1 : Int)) := (hb3'.cell (p := ⟨wr.heap.size, 0, none⟩) hlt1).trans hc0
      refine wpAnyIn_ready (rs := [2]) (by kernel_rfl) (by simp) ?_
      refine AllReadyIn.cons rfl (fun K hK => ?_) AllReadyIn.nil
      go_simp
      refine hK _ _ ?_
      clear hK K
      try simp only [Act.put, List.getElem_toArray, List.getElem_cons_succ, List.getElem_cons_zero, List.setIfInBounds_toArray, List.set_cons_zero, List.set_cons_succ]
      obtain ⟨fn, tmps, assign, bd, hy, hR⟩ := hY pre ⟨x.1, p3, c3, x.2⟩ w3 (hJ _ _ _ none hJ1 (grown_below hb3') (fun r e => by cases e)) hin3 (Nat.le_trans (Nat.le_trans hkr.size hb1.size) hb3'.size) hlen
      dsimp only [encL] at hy
      have hk3 : KpL (.slice (some ⟨g, 0, none⟩) L.length cq) wr w3 := ⟨fun j hj => (hb3'.block j (Nat.lt_trans (by cases hj; exact hglt) hlt1)).trans (hb1.block j (by cases hj; exact hglt)), Nat.le_trans hb1.size hb3'.size⟩
      refine wpAnyIn_ready (rs := [6]) (by kernel_rfl) (by simp) ?_
      refine AllReadyIn.cons rfl (fun K hK => ?_) AllReadyIn.nil
      go_simp
      refine hR.mono ?_
      rintro e W3 (⟨rfl, hJ3, hk4⟩ | ⟨rfl, hJx3⟩)
      · refine hK _ _ ?_
        clear hK K
        try simp only [Act.put, List.getElem_toArray, List.getElem_cons_succ, List.getElem_cons_zero, List.setIfInBounds_toArray, List.set_cons_zero, List.set_cons_succ]
        refine wpAnyIn_take (i := 7) (v := ?_) rfl rfl (by kernel_rfl) (by kernel_rfl) (by kernel_rfl) (fun _ _ _ h => h) ⟨Or.inl ⟨by rfl, ?_⟩, fun _ => rfl⟩ ?_
        rotate_left
        · intro w'
          go_simp; try (with_reducible rfl)
        try simp only [Act.put, List.getElem_toArray, List.getElem_cons_succ, List.getElem_cons_zero, List.setIfInBounds_toArray, List.set_cons_zero, List.set_cons_succ]
        refine wpAnyIn_done (by kernel_rfl) ?_ _
        gi_wp2
        go_roundw
        case rel => exact ⟨k + 1, _, by omega, by simp, by show _ = _; rw [List.map_append, hpre.out, HU.out]; rfl, hJ3, (hkr.trans hk3).trans hk4⟩
        case measure => simp [intOf]; omega
      · refine hK _ _ ?_
        clear hK K
        try simp only [Act.put, List.getElem_toArray, List.getElem_cons_succ, List.getElem_cons_zero, List.setIfInBounds_toArray, List.set_cons_zero, List.set_cons_succ]
        refine wpAnyIn_take (i := 7) (v := ?_) rfl rfl (by kernel_rfl) (by kernel_rfl) (by kernel_rfl) (fun _ _ _ h => h) ⟨Or.inl ⟨by rfl, ?_⟩, fun _ => rfl⟩ ?_
        rotate_left
        · intro w'
          go_simp; try (with_reducible rfl)
        try simp only [Act.put, List.getElem_toArray, List.getElem_cons_succ, List.getElem_cons_zero, List.setIfInBounds_toArray, List.set_cons_zero, List.set_cons_succ]
        refine wpAnyIn_done (by kernel_rfl) ?_ _
        gi_wp2
        refine bodyPost_ret (results_none rfl _ _ _) rfl ?_
        exact ⟨⟨_, rfl⟩, .inr ⟨_, ⟨k, hkn, by rw [List.map_append, hpre.out, HU.out]; rfl⟩, hJx3⟩⟩
    · obtain rfl : k = L.length := by omega
      gi_wp2
      go_end0
      exact ⟨⟨_, rfl⟩, .inl ⟨_, by rw [hpre.out, List.take_length], hJs⟩⟩
end Go.Proofs.Ytbnnekpglnnneaa
