/-
  Blocks of memory; rows of extents and of holes in memory.
-/
import Derived.Test.YtmboohadindlfaaBase
import Derived.Deep.WholeRow
import Derived.Deep.MidRow
import Derived.Deep.RegionHeld3
import Derived.Great.BuildSlice
import Derived.Deep.LoopGhost
import Derived.Maps.AppendAt
namespace Go.Proofs.Ytmboohadindlfaa
open Go.RowKit
theorem addr_add (b o j : Nat) : (⟨b, o, none⟩ : Addr).add j = ⟨b, o + j, none⟩ := by unfold Addr.add; split <;> simp_all
theorem below_alloc (w : World) (o : Obj) : Below w.heap.size w (w.alloc o) := (Below.refl _ _).alloc (Nat.le_refl _) o
theorem owns_below {w w' : World} {B : Nat} {e : TypeId} {s : Nat} {v : Value} {n : Nat} {xs : List Value} (h : w.ownsRow B e s v n xs) (hb : Below w.heap.size w w') : w'.ownsRow B e s v n xs := by
  refine ⟨h.1, ?_⟩
  rcases h.2 with h' | ⟨g, cap, cur, rfl, hg, hh, hr⟩
  · exact .inl h'
  · refine .inr ⟨g, cap, cur, rfl, hg, ?_, hr⟩
    have hlt : g < w.heap.size := by
      rcases Nat.lt_or_ge g w.heap.size with h' | h'
      · exact h'
      · rw [Array.getElem?_eq_none h'] at hh; simp at hh
    rw [hb.block g hlt]; exact hh
theorem below_grown0 {w w1 : World} (h : w.grownBy w1 none) : Below w.heap.size w w1 := (Below.refl _ _).grown h (Nat.le_refl _) (fun _ h => by cases h)
/-- Block g of the world holds just these cells, of that type; none is frozen. -/
def Blk (w : World) (g : Nat) (t : TypeId) (cs : List Value) : Prop := w.heap[g]? = some (.cells cs.toArray t (0, 0))
theorem Blk.lt {w : World} {g : Nat} {t : TypeId} {cs : List Value} (h : Blk w g t cs) : g < w.heap.size := by
  rcases Nat.lt_or_ge g w.heap.size with h' | h'
  · exact h'
  · rw [Blk, Array.getElem?_eq_none h'] at h; simp at h
theorem Blk.cell {w : World} {g : Nat} {t : TypeId} {cs : List Value} (h : Blk w g t cs) (i : Nat) : w.cell? ⟨g, i, none⟩ = cs[i]? := by
  rw [cell_of_row w g i _ t _ h]; simp
theorem Blk.cell' {w : World} {g : Nat} {t : TypeId} {cs : List Value} (h : Blk w g t cs) {i : Nat} {v : Value} (hv : cs[i]? = some v) : w.cell? ⟨g, i, none⟩ = some v := (h.cell i).trans hv
theorem Blk.frozen {w : World} {g : Nat} {t : TypeId} {cs : List Value} (h : Blk w g t cs) (i : Nat) : w.frozen? ⟨g, i, none⟩ = false := frozen_of_row w g i _ t h
theorem Blk.new (w : World) (t : TypeId) (cs : List Value) : Blk (w.alloc (.cells cs.toArray t)) w.heap.size t cs := heap_alloc_new w _
theorem Blk.new' (w : World) (t : TypeId) (cs : Array Value) : Blk (w.alloc (.cells cs t)) w.heap.size t cs.toList := heap_alloc_new w _
theorem Blk.alloc {w : World} {g : Nat} {t : TypeId} {cs : List Value} (h : Blk w g t cs) (o : Obj) : Blk (w.alloc o) g t cs := (Below.heap_alloc w o g h.lt).trans h
theorem Blk.drew {w : World} {g : Nat} {t : TypeId} {cs : List Value} (h : Blk w g t cs) : Blk w.drew g t cs := h
theorem Blk.drewN {w : World} {g : Nat} {t : TypeId} {cs : List Value} (h : Blk w g t cs) (n : Nat) : Blk (w.drewN n) g t cs := h
theorem Blk.set {w : World} {g : Nat} {t : TypeId} {cs : List Value} (h : Blk w g t cs) (i : Nat) (v : Value) : Blk (w.setCell ⟨g, i, none⟩ v) g t (cs.set i v) := by
  have := heap_setCell_same w g i cs.toArray t v h
  rw [Blk, this]; simp
theorem Blk.setOther {w : World} {g : Nat} {t : TypeId} {cs : List Value} (h : Blk w g t cs) (a : Addr) (v : Value) (hne : g ≠ a.block) : Blk (w.setCell a v) g t cs := (heap_setCell_other w a g v hne).trans h
theorem Blk.setRow {w : World} {g : Nat} {t : TypeId} {cs : List Value} (h : Blk w g t cs) (cs' : List Value) : Blk (w.setRow g cs'.toArray) g t cs' := setRow_heap w g _ _ t _ h
theorem Blk.setRow' {w : World} {g : Nat} {t : TypeId} {cs : List Value} (h : Blk w g t cs) (cs' : Array Value) : Blk (w.setRow g cs') g t cs'.toList := setRow_heap w g _ _ t _ h
theorem Blk.rowOther {w : World} {g : Nat} {t : TypeId} {cs : List Value} (h : Blk w g t cs) (k : Nat) (cs' : Array Value) (hne : g ≠ k) : Blk (w.setRow k cs') g t cs := (setRow_other w k g cs' hne).trans h
theorem Blk.below {w w' : World} {B g : Nat} {t : TypeId} {cs : List Value} (h : Blk w g t cs) (hb : Below B w w') (hg : g < B) : Blk w' g t cs := (hb.block g hg).trans h
theorem Blk.kept {w w' : World} {g : Nat} {t : TypeId} {cs : List Value} (h : Blk w g t cs) (hb : Below w.heap.size w w') : Blk w' g t cs := h.below hb h.lt
theorem Blk.same {w w' : World} {g : Nat} {t : TypeId} {cs : List Value} (h : Blk w g t cs) (hb : w'.heap[g]? = w.heap[g]?) : Blk w' g t cs := hb.trans h
/-- A part of a block, read as one value. -/
theorem Blk.load {w : World} {g : Nat} {t : TypeId} {cs : List Value} (h : Blk w g t cs) (o n : Nat) (xs : List Value) (hx : (cs.drop o).take n = xs) (hn : xs.length = n) :
    (loadCellsFrom ⟨g, o, none⟩ 0 n #[]).run Try.prog w = .ok xs.toArray w := by
  have := run_loadCells_list (P := Try.prog) (w := w) ⟨g, o, none⟩ xs (fun j v hv => by
    rw [addr_add]
    refine h.cell' ?_
    subst hx
    have hj : j < n := by
      rcases Nat.lt_or_ge j n with h' | h'
      · exact h'
      · rw [List.getElem?_eq_none (by omega)] at hv; simp at hv
    rw [List.getElem?_take_of_lt hj, List.getElem?_drop] at hv
    exact hv)
  rw [hn] at this
  simpa [loadCells] using this
/-- A value of several cells laid into a block. -/
theorem Blk.store {w : World} {g : Nat} {t : TypeId} {cs : List Value} (h : Blk w g t cs) (o : Nat) (xs : List Value) (hx : o + xs.length ≤ cs.length) (h1 : ∀ v ∈ xs, v.oneCell' = true) :
    (storeCells ⟨g, o, none⟩ xs 0).run Try.prog w = .ok () (w.setRow g (cs.take o ++ xs ++ cs.drop (o + xs.length)).toArray) := by
  have := run_storeCells_at (P := Try.prog) g o t xs 0 cs.toArray w h (by simpa using hx) h1
  simpa using this
/-- The worlds are the same but for what block g holds. -/
structure Turned (w w' : World) (g : Nat) : Prop where
  os : w'.os = w.os
  tape : w'.tape = w.tape
  output : w'.output = w.output
  size : w'.heap.size = w.heap.size
  block : ∀ k, k ≠ g → w'.heap[k]? = w.heap[k]?
theorem Turned.setRow (w : World) (g : Nat) (cs : Array Value) : Turned w (w.setRow g cs) g :=
  ⟨rfl, rfl, rfl, by simp [World.setRow], fun k hk => setRow_other w g k cs hk⟩
theorem Turned.setCell (w : World) (a : Addr) (v : Value) : Turned w (w.setCell a v) a.block :=
  ⟨rfl, rfl, rfl, by simp [World.setCell], fun k hk => heap_setCell_other w a k v hk⟩
theorem Blk.turned {w w' : World} {g k : Nat} {t : TypeId} {cs : List Value} (h : Blk w g t cs) (ht : Turned w w' k) (hne : g ≠ k) : Blk w' g t cs := (ht.block g hne).trans h
theorem Turned.below {B : Nat} {a w w' : World} {g : Nat} (ht : Turned w w' g) (h : Below B a w) (hg : B ≤ g) : Below B a w' :=
  ⟨ht.os.trans h.os, ht.tape.trans h.tape, ht.output.trans h.output, by rw [ht.size]; exact h.size, fun k hk => (ht.block k (by omega)).trans (h.block k hk)⟩
theorem Blk.range {w : World} {g : Nat} {t : TypeId} {cs : List Value} (h : Blk w g t cs) (o n : Nat) (xs : List Value) (hx : (cs.drop o).take n = xs) : w.rangeAt g o xs := by
  intro j v hv
  refine h.cell' ?_
  subst hx
  have hj : j < n := by
    rcases Nat.lt_or_ge j n with h' | h'
    · exact h'
    · rw [List.getElem?_eq_none (by rw [List.length_take]; omega)] at hv; simp at hv
  rw [List.getElem?_take_of_lt hj, List.getElem?_drop] at hv
  exact hv
/-- A store of a whole value into a block that is known whole. -/
theorem wpList_store_blk {ops : Array Oper} {rest : List Oper} {op : Oper} {a : Act} {w : World} {Q : Exit → Act → World → Prop} (hgd : op.guard = none) (ty : TypeId) (x y : Operand) (ho : op.op = .store ty x y)
    (g o : Nat) (xs : List Value) (hx : a.eval x = .pointer (some ⟨g, o, none⟩)) (hy : a.eval y = .agg xs.toArray) {t : TypeId} {cs : List Value} (h : Blk w g t cs) (hle : o + xs.length ≤ cs.length)
    (hi : (Try.prog.info? ty).map (·.size) = some xs.length) (h1 : ∀ v ∈ xs, v.oneCell' = true)
    (hK : ∀ w', Blk w' g t (cs.take o ++ xs ++ cs.drop (o + xs.length)) → Turned w w' g → wpList Try.prog ops Q rest (a.put op.dst undef) w') : wpList Try.prog ops Q (op :: rest) a w := by
  have hst := h.store o xs hle h1
  have hrun : (storeVar ty ⟨g, o, none⟩ (.agg xs.toArray)).run Try.prog w = .ok () (w.setRow g (cs.take o ++ xs ++ cs.drop (o + xs.length)).toArray) := by
    cases hq : Try.prog.info? ty with
    | none => simp [hq] at hi
    | some i =>
      have hs : xs.length = i.size := by simp [hq] at hi; omega
      simp only [storeVar, sizeOf, typeInfo, Sem.run_bind, Value.cells]
      simp [hs, hq, hst]
  refine wpList_plain hgd fun K hKK => ?_
  unfold Oper.wp execOp
  simp only [ho, hx, hy, Instr.storeAt, Instr.sureAddr, Sem.run_bind, Sem.run_pure, Result.andThen_ok, hrun]
  exact hKK _ _ (hK _ (h.setRow _) (Turned.setRow _ _ _))
theorem whole_row {cs xs : List Value} (h : cs.length = xs.length) : cs.take 0 ++ xs ++ cs.drop (0 + xs.length) = xs := by
  rw [List.take_zero, List.nil_append, Nat.zero_add, List.drop_of_length_le (by omega), List.append_nil]
theorem bt {a b c : World} (h : Below a.heap.size a b) (k : Below b.heap.size b c) : Below a.heap.size a c := h.trans (k.mono h.size)
/-- Whatever block is not in S lies as it lay. -/
structure Keep (S : Nat → Prop) (w w' : World) : Prop where
  os : w'.os = w.os
  tape : w'.tape = w.tape
  output : w'.output = w.output
  size : w.heap.size ≤ w'.heap.size
  block : ∀ k, k < w.heap.size → ¬ S k → w'.heap[k]? = w.heap[k]?
theorem Keep.refl (S : Nat → Prop) (w : World) : Keep S w w := ⟨rfl, rfl, rfl, Nat.le_refl _, fun _ _ _ => rfl⟩
theorem Keep.trans {S T : Nat → Prop} {a b c : World} (h : Keep S a b) (k : Keep T b c) (hT : ∀ j, j < a.heap.size → T j → S j) : Keep S a c :=
  ⟨k.os.trans h.os, k.tape.trans h.tape, k.output.trans h.output, Nat.le_trans h.size k.size, fun j hj hn => (k.block j (Nat.lt_of_lt_of_le hj h.size) (fun ht => hn (hT j hj ht))).trans (h.block j hj hn)⟩
theorem Keep.of_below {S : Nat → Prop} {w w' : World} (h : Below w.heap.size w w') : Keep S w w' := ⟨h.os, h.tape, h.output, h.size, fun k hk _ => h.block k hk⟩
theorem Keep.of_turned {S : Nat → Prop} {w w' : World} {g : Nat} (h : Turned w w' g) (hg : S g) : Keep S w w' := ⟨h.os, h.tape, h.output, by rw [h.size]; exact Nat.le_refl _, fun k _ hn => h.block k (fun e => hn (e ▸ hg))⟩
theorem Keep.of_grown {S : Nat → Prop} {w w' : World} {row : Option Nat} (h : w.grownBy w' row) (hr : ∀ k, row = some k → k < w.heap.size → S k) : Keep S w w' :=
  ⟨h.os, h.tape, h.output, h.size, fun k hk hn => h.block k hk (fun e => hn (hr k e.symm hk))⟩
theorem Keep.mono {S T : Nat → Prop} {w w' : World} (h : Keep S w w') (hs : ∀ k, k < w.heap.size → S k → T k) : Keep T w w' := ⟨h.os, h.tape, h.output, h.size, fun k hk hn => h.block k hk (fun e => hn (hs k hk e))⟩
theorem Keep.below {S : Nat → Prop} {w w' : World} {B : Nat} (h : Keep S w w') (hB : B ≤ w.heap.size) (hs : ∀ k, S k → B ≤ k) : Below B w w' := ⟨h.os, h.tape, h.output, h.size, fun k hk => h.block k (by omega) (fun e => by have := hs k e; omega)⟩
theorem Keep.drew {S : Nat → Prop} {w w' : World} (h : Keep S w w') : Keep S w w'.drew := ⟨h.os, h.tape, h.output, h.size, h.block⟩
theorem Blk.grown {w w' : World} {row : Option Nat} {g : Nat} {t : TypeId} {cs : List Value} (h : Blk w g t cs) (hg : w.grownBy w' row) (hne : some g ≠ row) : Blk w' g t cs := (hg.block g h.lt hne).trans h
theorem Blk.keep {S : Nat → Prop} {w w' : World} {g : Nat} {t : TypeId} {cs : List Value} (h : Blk w g t cs) (hk : Keep S w w') (hg : ¬ S g) : Blk w' g t cs := (hk.block g h.lt hg).trans h
theorem fold_set : ∀ (xs : List Value) (k : Nat) (cs : List Value), k + xs.length ≤ cs.length →
    (xs.zipIdx k).foldl (fun (cs : Array Value) (p : Value × Nat) => cs.setIfInBounds (0 + p.2) p.1) cs.toArray = (cs.take k ++ xs ++ cs.drop (k + xs.length)).toArray
  | [], k, cs, h => by simp
  | x :: r, k, cs, h => by
    simp only [List.length_cons] at h
    rw [List.zipIdx_cons, List.foldl_cons]
    have e : cs.toArray.setIfInBounds (0 + k) x = (cs.set k x).toArray := by simp
    simp only [e]
    rw [fold_set r (k + 1) (cs.set k x) (by simp; omega)]
    congr 1
    have hk : k < cs.length := by omega
    rw [List.take_set, List.drop_set_of_lt (by omega), List.take_succ_eq_append_getElem hk, List.set_append_right _ _ (by rw [List.length_take]; exact Nat.min_le_left _ _)]
    simp [show min k cs.length = k from by omega, show k + 1 + r.length = k + (r.length + 1) from by omega]
theorem fill_one (z xs : List Value) (n : Nat) (hz : z.length = n) (hx : xs.length = n) : Instr.fill (fun i => some (i * n, n)) z.toArray [(0, .agg xs.toArray)] = some xs.toArray := by
  have e := fold_set xs 0 z (by omega)
  rw [List.take_zero, List.nil_append, List.drop_of_length_le (by omega), List.append_nil] at e
  simp only [Instr.fill, Value.cells, List.size_toArray, Nat.zero_mul]
  rw [if_neg (by simp; omega)]
  rw [← Array.foldl_toList, Array.toList_zipIdx]
  simpa using e
theorem owns_slice {w : World} {B n : Nat} {e : TypeId} {z : Nat} {v : Value} {xs : List Value} (h : w.ownsRow B e z v n xs) : ∃ p c, v = .slice p n c := by
  rcases h.2 with ⟨rfl, rfl⟩ | ⟨g, cap, cur, rfl, _⟩
  · exact ⟨none, 0, rfl⟩
  · exact ⟨_, cap, rfl⟩
theorem newRange {w : World} {t : TypeId} (xs : List Value) : ∀ j u, xs[j]? = some u → (w.alloc (.cells xs.toArray t)).cell? ((⟨w.heap.size, 0, none⟩ : Addr).add j) = some u := by
  intro j u hu
  rw [addr_add, Nat.zero_add]
  exact (Blk.new w t xs).cell' hu
theorem Turned.trans {a b c : World} {g : Nat} (h : Turned a b g) (k : Turned b c g) : Turned a c g := ⟨k.os.trans h.os, k.tape.trans h.tape, k.output.trans h.output, k.size.trans h.size, fun j hj => (k.block j hj).trans (h.block j hj)⟩
theorem owns_base {w : World} {B B' : Nat} {e : TypeId} {s : Nat} {v : Value} {n : Nat} {xs : List Value} (h : w.ownsRow B e s v n xs) (hb : B' ≤ B) : w.ownsRow B' e s v n xs := by
  refine ⟨h.1, ?_⟩
  rcases h.2 with h' | ⟨g, cap, cur, rfl, hg, hr⟩
  · exact .inl h'
  · exact .inr ⟨g, cap, cur, rfl, Nat.le_trans hb hg, hr⟩
theorem below_appP {B : Nat} {w0 wr w1 : World} {o : Obj} {v : Value} {n : Nat} {e : TypeId} {z : Nat} {xs : List Value} (hbel : Below B w0 wr) (hB : B ≤ w0.heap.size) (hown : wr.ownsRow B e z v n xs) (hg : (wr.alloc o).grownBy w1 v.ownBlock) : Below B w0 w1 := by
  have hs := hbel.size
  refine (hbel.alloc (by omega) o).grown hg (by simp; omega) fun k hk => ?_
  rcases hown.2 with ⟨rfl, _⟩ | ⟨g, cap, cur, rfl, hg, _⟩
  · simp [Value.ownBlock] at hk
  · simp only [Value.ownBlock, Option.some.injEq] at hk
    omega
theorem owns_newP {w : World} {B : Nat} {e : TypeId} {z : Nat} {p : Option Addr} {m n c : Nat} {xs : List Value} (h : w.ownsRow B e z (.slice p m c) n xs) : ∀ a, p = some a → B ≤ a.block := by
  rcases h.2 with ⟨h1, _⟩ | ⟨g, cap, cur, h1, hg, _⟩
  · cases h1; intro a ha; cases ha
  · cases h1; intro a ha; cases ha; exact hg
theorem owns_drewN {w : World} {B : Nat} {e : TypeId} {s : Nat} {v : Value} {n : Nat} {xs : List Value} (h : w.ownsRow B e s v n xs) (k : Nat) : (w.drewN k).ownsRow B e s v n xs := h
theorem wp_store_blk {op : Oper} {a : Act} {w : World} {K : Act → World → Prop} {Q : Exit → Act → World → Prop} (ty : TypeId) (x y : Operand) (ho : op.op = .store ty x y)
    (g o : Nat) (xs : List Value) (hx : a.eval x = .pointer (some ⟨g, o, none⟩)) (hy : a.eval y = .agg xs.toArray) {t : TypeId} {cs : List Value} (h : Blk w g t cs) (hle : o + xs.length ≤ cs.length)
    (hi : (Try.prog.info? ty).map (·.size) = some xs.length) (h1 : ∀ v ∈ xs, v.oneCell' = true)
    (hK : ∀ w', Blk w' g t (cs.take o ++ xs ++ cs.drop (o + xs.length)) → Turned w w' g → K (a.put op.dst undef) w') : op.wp Try.prog a w K Q := by
  have hst := h.store o xs hle h1
  have hrun : (storeVar ty ⟨g, o, none⟩ (.agg xs.toArray)).run Try.prog w = .ok () (w.setRow g (cs.take o ++ xs ++ cs.drop (o + xs.length)).toArray) := by
    cases hq : Try.prog.info? ty with
    | none => simp [hq] at hi
    | some i =>
      have hs : xs.length = i.size := by simp [hq] at hi; omega
      simp only [storeVar, sizeOf, typeInfo, Sem.run_bind, Value.cells]
      simp [hs, hq, hst]
  unfold Oper.wp execOp
  simp only [ho, hx, hy, Instr.storeAt, Instr.sureAddr, Sem.run_bind, Sem.run_pure, Result.andThen_ok, hrun]
  exact hK _ (h.setRow _) (Turned.setRow _ _ _)
theorem Turned.cell {w w' : World} {g : Nat} (h : Turned w w' g) {a : Addr} (ha : a.block ≠ g) : w'.cell? a = w.cell? a := by
  simp only [World.cell?, h.block a.block ha]
theorem Blk.newAt {w : World} {g : Nat} (t : TypeId) (cs : Array Value) (hg : w.heap.size = g) : Blk (w.alloc (.cells cs t)) g t cs.toList := by subst hg; exact Blk.new' w t cs
theorem grown_of {w w' : World} (h : Below w.heap.size w w') : w.grownBy w' none := ⟨h.os, h.tape, h.output, h.size, fun k hk _ => h.block k hk⟩
structure Ext where
  lo : Int
  ln : Int
  ph : Int
abbrev Ext.val (x : Ext) : Value := .agg #[.int .i64 x.lo, .int .i64 x.ln, .int .i64 x.ph]
def Ext.cells (x : Ext) : List Value := [.int .i64 x.lo, .int .i64 x.ln, .int .i64 x.ph]
def eE (l : List Ext) (i : Nat) : Ext := l.getD i ⟨0, 0, 0⟩
theorem eE_mem {l : List Ext} {k : Nat} (h : k < l.length) : eE l k ∈ l := by simp [eE, h]
theorem takeE_succ (l : List Ext) (k : Nat) (h : k < l.length) : l.take (k + 1) = l.take k ++ [eE l k] := by
  rw [List.take_succ_eq_append_getElem h]; simp [eE, h]
def flatE (l : List Ext) : List Value := l.flatMap Ext.cells
theorem flatE_cons (x : Ext) (l : List Ext) : flatE (x :: l) = .int .i64 x.lo :: .int .i64 x.ln :: .int .i64 x.ph :: flatE l := rfl
theorem flatE_length (l : List Ext) : (flatE l).length = l.length * 3 := by
  induction l with
  | nil => rfl
  | cons x l ih => rw [flatE_cons]; simp only [List.length_cons, ih]; omega
theorem flatE_append (l m : List Ext) : flatE (l ++ m) = flatE l ++ flatE m := by simp [flatE]
theorem flatE_one (l : List Ext) : ∀ u ∈ flatE l, u.oneCell' = true := by
  intro u hu
  obtain ⟨x, _, hx⟩ := List.mem_flatMap.1 hu
  simp only [Ext.cells, List.mem_cons, List.not_mem_nil, or_false] at hx
  rcases hx with rfl | rfl | rfl <;> rfl
theorem flatE_at {l : List Ext} {k : Nat} (h : k < l.length) : (flatE l)[k * 3]? = some (.int .i64 (eE l k).lo) ∧ (flatE l)[k * 3 + 1]? = some (.int .i64 (eE l k).ln) ∧ (flatE l)[k * 3 + 2]? = some (.int .i64 (eE l k).ph) := by
  induction l generalizing k with
  | nil => simp at h
  | cons y l ih =>
    cases k with
    | zero => rw [flatE_cons]; simp [eE]
    | succ k =>
      have := ih (k := k) (by simpa using h)
      rw [flatE_cons, show (k + 1) * 3 = k * 3 + 1 + 1 + 1 by omega]
      simpa [eE] using this
/-- A slice of such things that lies in a world. -/
structure InE (w : World) (p : Option Addr) (n c : Nat) (l : List Ext) : Prop where
  len : l.length = n
  cap : n ≤ c
  max : c ≤ maxLen
  room : n ≤ 140737488355328
  at' : 0 < n → ∃ b o, p = some ⟨b, o, none⟩ ∧ b < w.heap.size ∧ ∀ i, i < n → w.cell? ⟨b, o + i * 3, none⟩ = some (.int .i64 (eE l i).lo) ∧ w.cell? ⟨b, o + i * 3 + 1, none⟩ = some (.int .i64 (eE l i).ln) ∧ w.cell? ⟨b, o + i * 3 + 2, none⟩ = some (.int .i64 (eE l i).ph)
  nil : p = none → c = 0
theorem InE.below {w w' : World} {p : Option Addr} {n c : Nat} {l : List Ext} (h : InE w p n c l) (hb : Below w.heap.size w w') : InE w' p n c l :=
  ⟨h.len, h.cap, h.max, h.room, fun h0 => by
    obtain ⟨b, o, hp, hlt, hc⟩ := h.at' h0
    refine ⟨b, o, hp, Nat.lt_of_lt_of_le hlt hb.size, fun i hi => ?_⟩
    obtain ⟨h0, h1, h2⟩ := hc i hi
    exact ⟨(hb.cell (p := ⟨b, o + i * 3, none⟩) hlt).trans h0, (hb.cell (p := ⟨b, o + i * 3 + 1, none⟩) hlt).trans h1, (hb.cell (p := ⟨b, o + i * 3 + 2, none⟩) hlt).trans h2⟩, h.nil⟩
theorem InE.empty (w : World) : InE w none 0 0 [] := ⟨rfl, Nat.le_refl _, Nat.zero_le _, Nat.zero_le _, fun h => by omega, fun _ => rfl⟩
theorem InE.flat {w : World} {p : Option Addr} {n c : Nat} {l : List Ext} (h : InE w p n c l) {a : Addr} (ha : p = some a) : ∀ j u, (flatE l)[j]? = some u → w.cell? (a.add j) = some u := by
  intro j u hu
  have hj : j < l.length * 3 := by
    rcases Nat.lt_or_ge j (l.length * 3) with h' | h'
    · exact h'
    · rw [List.getElem?_eq_none (by rw [flatE_length]; exact h')] at hu; simp at hu
  have hl := h.len
  obtain ⟨b, o, hp, _, hc⟩ := h.at' (by omega)
  rw [ha] at hp
  cases hp
  obtain ⟨i, r, hir, hr⟩ : ∃ i r, j = i * 3 + r ∧ r < 3 := ⟨j / 3, j % 3, by omega, by omega⟩
  subst hir
  rw [addr_add, ← Nat.add_assoc]
  obtain ⟨h0, h1, h2⟩ := hc i (by omega)
  obtain ⟨f0, f1, f2⟩ := flatE_at (l := l) (k := i) (by omega)
  match r, hr with
  | 0, _ => rw [Nat.add_zero, f0] at hu; rw [← hu]; exact h0
  | 1, _ => rw [f1] at hu; rw [← hu]; exact h1
  | 2, _ => rw [f2] at hu; rw [← hu]; exact h2
theorem in_of_ownsE {w : World} {B : Nat} {v : Value} {n : Nat} {l : List Ext} (h : w.ownsRow B 31 3 v n (flatE l)) (hr : n ≤ 140737488355328) :
    ∃ p c, v = .slice p n c ∧ InE w p n c l := by
  have hl : l.length = n := by have := h.1; rw [flatE_length] at this; omega
  rcases h.2 with ⟨rfl, rfl⟩ | ⟨g, cap, cur, rfl, hg, hh, hnc, hcm, hsz, htk⟩
  · have : l = [] := List.eq_nil_of_length_eq_zero hl
    subst this
    exact ⟨none, 0, rfl, InE.empty w⟩
  · refine ⟨some ⟨g, 0, none⟩, cap, rfl, hl, hnc, hcm, hr, fun h0 => ⟨g, 0, rfl, ?_, fun i hi => ?_⟩, fun h => by simp at h⟩
    · rcases Nat.lt_or_ge g w.heap.size with h' | h'
      · exact h'
      · rw [Array.getElem?_eq_none h'] at hh; simp at hh
    · rw [Nat.zero_add]
      obtain ⟨f0, f1, f2⟩ := flatE_at (l := l) (k := i) (by omega)
      exact ⟨(World.ownsRow.cellAt h (i * 3) (by omega)).trans f0, (World.ownsRow.cellAt h (i * 3 + 1) (by omega)).trans f1, (World.ownsRow.cellAt h (i * 3 + 2) (by omega)).trans f2⟩
theorem infoE : (Try.prog.info? 31).map (fun i => (i.zero, i.size, i.bytes)) = some (some (.agg #[.int .i64 0, .int .i64 0, .int .i64 0]), 3, 24) := by kernel_rfl
theorem sizeE : (Try.prog.info? 31).map (·.size) = some 3 := by kernel_rfl
theorem flatE_set {l : List Ext} {k : Nat} (r : Ext) (h : k < l.length) : (((flatE l).set (k * 3) (.int .i64 r.lo)).set (k * 3 + 1) (.int .i64 r.ln)).set (k * 3 + 2) (.int .i64 r.ph) = flatE (l.set k r) := by
  induction l generalizing k with
  | nil => simp at h
  | cons y l ih =>
    cases k with
    | zero =>
      show _ = flatE (r :: l)
      rw [flatE_cons, flatE_cons]; simp
    | succ k =>
      rw [flatE_cons, List.set_cons_succ, flatE_cons, ← ih (by simpa using h), show (k + 1) * 3 = k * 3 + 1 + 1 + 1 by omega]
      simp
theorem run_storeE {w : World} {B g n c k : Nat} {l : List Ext} (h : w.ownsRow B 31 3 (.slice (some ⟨g, 0, none⟩) n c) n (flatE l)) (hk : k < n) (r : Ext) :
    ∃ w', (storeVar 31 ⟨g, k * 3, none⟩ r.val).run Try.prog w = .ok () w' ∧ w'.ownsRow B 31 3 (.slice (some ⟨g, 0, none⟩) n c) n (flatE (l.set k r)) ∧ Turned w w' g := by
  have hl : l.length = n := by have := h.1; rw [flatE_length] at this; omega
  obtain ⟨f0, f1, f2⟩ := flatE_at (l := l) (k := k) (by omega)
  have c0 := (h.cellAt (k * 3) (by omega)).trans f0
  have c1 := (h.cellAt (k * 3 + 1) (by omega)).trans f1
  have c2 := (h.cellAt (k * 3 + 2) (by omega)).trans f2
  have hst := run_storeCells_cells (P := Try.prog) g (k * 3) [.int .i64 r.lo, .int .i64 r.ln, .int .i64 r.ph] 0 w (fun j hj => by
      match j, hj with
      | 0, _ => simp [c0]
      | 1, _ => simp [c1]
      | 2, _ => simp [c2]) (fun j _ => by simpa using h.frozenAt (k * 3 + (0 + j))) (by simp [Value.oneCell'])
  have hs := (((h.stored (k * 3) (.int .i64 r.lo)).1.stored (k * 3 + 1) (.int .i64 r.ln)).1.stored (k * 3 + 2) (.int .i64 r.ph)).1
  rw [flatE_set r (by omega)] at hs
  refine ⟨_, ?_, hs, (((Turned.setCell w ⟨g, k * 3, none⟩ _).trans (Turned.setCell _ ⟨g, k * 3 + 1, none⟩ _)).trans (Turned.setCell _ ⟨g, k * 3 + 2, none⟩ _))⟩
  cases hq : Try.prog.info? 31 with
  | none => have := sizeE; simp [hq] at this
  | some i =>
    have hsz : i.size = 3 := by have := sizeE; simpa [hq] using this
    simp only [storeVar, sizeOf, typeInfo, Sem.run_bind, Value.cells]
    simp [hsz, hq, hst, World.setCells]
theorem wp_storeE {op : Oper} {a : Act} {w : World} {K : Act → World → Prop} {Q : Exit → Act → World → Prop} (x y : Operand) (ho : op.op = .store 31 x y) (g k : Nat) (r : Ext) (hx : a.eval x = .pointer (some ⟨g, k * 3, none⟩)) (hy : a.eval y = r.val)
    {B n c : Nat} {l : List Ext} (h : w.ownsRow B 31 3 (.slice (some ⟨g, 0, none⟩) n c) n (flatE l)) (hk : k < n)
    (hK : ∀ w', w'.ownsRow B 31 3 (.slice (some ⟨g, 0, none⟩) n c) n (flatE (l.set k r)) → Turned w w' g → K (a.put op.dst undef) w') : op.wp Try.prog a w K Q := by
  obtain ⟨w', hrun, hown, ht⟩ := run_storeE h hk r
  unfold Oper.wp execOp
  simp only [ho, hx, hy, Instr.storeAt, Instr.sureAddr, Sem.run_bind, Sem.run_pure, Result.andThen_ok, hrun]
  exact hK _ hown ht
structure Hol where
  a : Int
  l : Int
abbrev Hol.val (x : Hol) : Value := .agg #[.int .i64 x.a, .int .i64 x.l]
def Hol.cells (x : Hol) : List Value := [.int .i64 x.a, .int .i64 x.l]
def eH (l : List Hol) (i : Nat) : Hol := l.getD i ⟨0, 0⟩
theorem eH_mem {l : List Hol} {k : Nat} (h : k < l.length) : eH l k ∈ l := by simp [eH, h]
theorem takeH_succ (l : List Hol) (k : Nat) (h : k < l.length) : l.take (k + 1) = l.take k ++ [eH l k] := by
  rw [List.take_succ_eq_append_getElem h]; simp [eH, h]
def flatH (l : List Hol) : List Value := l.flatMap Hol.cells
theorem flatH_cons (x : Hol) (l : List Hol) : flatH (x :: l) = .int .i64 x.a :: .int .i64 x.l :: flatH l := rfl
theorem flatH_length (l : List Hol) : (flatH l).length = l.length * 2 := by
  induction l with
  | nil => rfl
  | cons x l ih => rw [flatH_cons]; simp only [List.length_cons, ih]; omega
theorem flatH_append (l m : List Hol) : flatH (l ++ m) = flatH l ++ flatH m := by simp [flatH]
theorem flatH_one (l : List Hol) : ∀ u ∈ flatH l, u.oneCell' = true := by
  intro u hu
  obtain ⟨x, _, hx⟩ := List.mem_flatMap.1 hu
  simp only [Hol.cells, List.mem_cons, List.not_mem_nil, or_false] at hx
  rcases hx with rfl | rfl <;> rfl
theorem flatH_at {l : List Hol} {k : Nat} (h : k < l.length) : (flatH l)[k * 2]? = some (.int .i64 (eH l k).a) ∧ (flatH l)[k * 2 + 1]? = some (.int .i64 (eH l k).l) := by
  induction l generalizing k with
  | nil => simp at h
  | cons y l ih =>
    cases k with
    | zero => rw [flatH_cons]; simp [eH]
    | succ k =>
      have := ih (k := k) (by simpa using h)
      rw [flatH_cons, show (k + 1) * 2 = k * 2 + 1 + 1 by omega]
      simpa [eH] using this
/-- A slice of such things that lies in a world. -/
structure InH (w : World) (p : Option Addr) (n c : Nat) (l : List Hol) : Prop where
  len : l.length = n
  cap : n ≤ c
  max : c ≤ maxLen
  room : n ≤ 140737488355328
  at' : 0 < n → ∃ b o, p = some ⟨b, o, none⟩ ∧ b < w.heap.size ∧ ∀ i, i < n → w.cell? ⟨b, o + i * 2, none⟩ = some (.int .i64 (eH l i).a) ∧ w.cell? ⟨b, o + i * 2 + 1, none⟩ = some (.int .i64 (eH l i).l)
  nil : p = none → c = 0
theorem InH.below {w w' : World} {p : Option Addr} {n c : Nat} {l : List Hol} (h : InH w p n c l) (hb : Below w.heap.size w w') : InH w' p n c l :=
  ⟨h.len, h.cap, h.max, h.room, fun h0 => by
    obtain ⟨b, o, hp, hlt, hc⟩ := h.at' h0
    refine ⟨b, o, hp, Nat.lt_of_lt_of_le hlt hb.size, fun i hi => ?_⟩
    obtain ⟨h0, h1⟩ := hc i hi
    exact ⟨(hb.cell (p := ⟨b, o + i * 2, none⟩) hlt).trans h0, (hb.cell (p := ⟨b, o + i * 2 + 1, none⟩) hlt).trans h1⟩, h.nil⟩
theorem InH.empty (w : World) : InH w none 0 0 [] := ⟨rfl, Nat.le_refl _, Nat.zero_le _, Nat.zero_le _, fun h => by omega, fun _ => rfl⟩
theorem InH.flat {w : World} {p : Option Addr} {n c : Nat} {l : List Hol} (h : InH w p n c l) {a : Addr} (ha : p = some a) : ∀ j u, (flatH l)[j]? = some u → w.cell? (a.add j) = some u := by
  intro j u hu
  have hj : j < l.length * 2 := by
    rcases Nat.lt_or_ge j (l.length * 2) with h' | h'
    · exact h'
    · rw [List.getElem?_eq_none (by rw [flatH_length]; exact h')] at hu; simp at hu
  have hl := h.len
  obtain ⟨b, o, hp, _, hc⟩ := h.at' (by omega)
  rw [ha] at hp
  cases hp
  obtain ⟨i, r, hir, hr⟩ : ∃ i r, j = i * 2 + r ∧ r < 2 := ⟨j / 2, j % 2, by omega, by omega⟩
  subst hir
  rw [addr_add, ← Nat.add_assoc]
  obtain ⟨h0, h1⟩ := hc i (by omega)
  obtain ⟨f0, f1⟩ := flatH_at (l := l) (k := i) (by omega)
  match r, hr with
  | 0, _ => rw [Nat.add_zero, f0] at hu; rw [← hu]; exact h0
  | 1, _ => rw [f1] at hu; rw [← hu]; exact h1
theorem in_of_ownsH {w : World} {B : Nat} {v : Value} {n : Nat} {l : List Hol} (h : w.ownsRow B 38 2 v n (flatH l)) (hr : n ≤ 140737488355328) :
    ∃ p c, v = .slice p n c ∧ InH w p n c l := by
  have hl : l.length = n := by have := h.1; rw [flatH_length] at this; omega
  rcases h.2 with ⟨rfl, rfl⟩ | ⟨g, cap, cur, rfl, hg, hh, hnc, hcm, hsz, htk⟩
  · have : l = [] := List.eq_nil_of_length_eq_zero hl
    subst this
    exact ⟨none, 0, rfl, InH.empty w⟩
  · refine ⟨some ⟨g, 0, none⟩, cap, rfl, hl, hnc, hcm, hr, fun h0 => ⟨g, 0, rfl, ?_, fun i hi => ?_⟩, fun h => by simp at h⟩
    · rcases Nat.lt_or_ge g w.heap.size with h' | h'
      · exact h'
      · rw [Array.getElem?_eq_none h'] at hh; simp at hh
    · rw [Nat.zero_add]
      obtain ⟨f0, f1⟩ := flatH_at (l := l) (k := i) (by omega)
      exact ⟨(World.ownsRow.cellAt h (i * 2) (by omega)).trans f0, (World.ownsRow.cellAt h (i * 2 + 1) (by omega)).trans f1⟩
theorem infoH : (Try.prog.info? 38).map (fun i => (i.zero, i.size, i.bytes)) = some (some (.agg #[.int .i64 0, .int .i64 0]), 2, 16) := by kernel_rfl
theorem sizeH : (Try.prog.info? 38).map (·.size) = some 2 := by kernel_rfl
theorem flatH_set {l : List Hol} {k : Nat} (r : Hol) (h : k < l.length) : ((flatH l).set (k * 2) (.int .i64 r.a)).set (k * 2 + 1) (.int .i64 r.l) = flatH (l.set k r) := by
  induction l generalizing k with
  | nil => simp at h
  | cons y l ih =>
    cases k with
    | zero =>
      show _ = flatH (r :: l)
      rw [flatH_cons, flatH_cons]; simp
    | succ k =>
      rw [flatH_cons, List.set_cons_succ, flatH_cons, ← ih (by simpa using h), show (k + 1) * 2 = k * 2 + 1 + 1 by omega]
      simp
theorem run_storeH {w : World} {B g n c k : Nat} {l : List Hol} (h : w.ownsRow B 38 2 (.slice (some ⟨g, 0, none⟩) n c) n (flatH l)) (hk : k < n) (r : Hol) :
    ∃ w', (storeVar 38 ⟨g, k * 2, none⟩ r.val).run Try.prog w = .ok () w' ∧ w'.ownsRow B 38 2 (.slice (some ⟨g, 0, none⟩) n c) n (flatH (l.set k r)) ∧ Turned w w' g := by
  have hl : l.length = n := by have := h.1; rw [flatH_length] at this; omega
  obtain ⟨f0, f1⟩ := flatH_at (l := l) (k := k) (by omega)
  have c0 := (h.cellAt (k * 2) (by omega)).trans f0
  have c1 := (h.cellAt (k * 2 + 1) (by omega)).trans f1
  have hst := run_storeCells_cells (P := Try.prog) g (k * 2) [.int .i64 r.a, .int .i64 r.l] 0 w (fun j hj => by
      match j, hj with
      | 0, _ => simp [c0]
      | 1, _ => simp [c1]) (fun j _ => by simpa using h.frozenAt (k * 2 + (0 + j))) (by simp [Value.oneCell'])
  have hs := ((h.stored (k * 2) (.int .i64 r.a)).1.stored (k * 2 + 1) (.int .i64 r.l)).1
  rw [flatH_set r (by omega)] at hs
  refine ⟨_, ?_, hs, ((Turned.setCell w ⟨g, k * 2, none⟩ _).trans (Turned.setCell _ ⟨g, k * 2 + 1, none⟩ _))⟩
  cases hq : Try.prog.info? 38 with
  | none => have := sizeH; simp [hq] at this
  | some i =>
    have hsz : i.size = 2 := by have := sizeH; simpa [hq] using this
    simp only [storeVar, sizeOf, typeInfo, Sem.run_bind, Value.cells]
    simp [hsz, hq, hst, World.setCells]
theorem wp_storeH {op : Oper} {a : Act} {w : World} {K : Act → World → Prop} {Q : Exit → Act → World → Prop} (x y : Operand) (ho : op.op = .store 38 x y) (g k : Nat) (r : Hol) (hx : a.eval x = .pointer (some ⟨g, k * 2, none⟩)) (hy : a.eval y = r.val)
    {B n c : Nat} {l : List Hol} (h : w.ownsRow B 38 2 (.slice (some ⟨g, 0, none⟩) n c) n (flatH l)) (hk : k < n)
    (hK : ∀ w', w'.ownsRow B 38 2 (.slice (some ⟨g, 0, none⟩) n c) n (flatH (l.set k r)) → Turned w w' g → K (a.put op.dst undef) w') : op.wp Try.prog a w K Q := by
  obtain ⟨w', hrun, hown, ht⟩ := run_storeH h hk r
  unfold Oper.wp execOp
  simp only [ho, hx, hy, Instr.storeAt, Instr.sureAddr, Sem.run_bind, Sem.run_pure, Result.andThen_ok, hrun]
  exact hK _ hown ht
theorem flatE_snoc (l : List Ext) (r : Ext) : flatE l ++ [.int .i64 r.lo, .int .i64 r.ln, .int .i64 r.ph] = flatE (l ++ [r]) := by rw [flatE_append]; simp [flatE, Ext.cells]
theorem flatH_snoc (l : List Hol) (r : Hol) : flatH l ++ [.int .i64 r.a, .int .i64 r.l] = flatH (l ++ [r]) := by rw [flatH_append]; simp [flatH, Hol.cells]
theorem new_three (W : World) (x y z : Value) : ∀ j u, [x, y, z][j]? = some u → (W.alloc (.cells #[x, y, z] 31)).cell? ((⟨W.heap.size, 0, none⟩ : Addr).add j) = some u := by
  intro j u hu
  rw [addr_add, Nat.zero_add]
  exact (Blk.new' W 31 #[x, y, z]).cell' hu
theorem new_two (W : World) (x y : Value) : ∀ j u, [x, y][j]? = some u → (W.alloc (.cells #[x, y] 38)).cell? ((⟨W.heap.size, 0, none⟩ : Addr).add j) = some u := by
  intro j u hu
  rw [addr_add, Nat.zero_add]
  exact (Blk.new' W 38 #[x, y]).cell' hu
theorem InE.drewN {w : World} {p : Option Addr} {n c : Nat} {l : List Ext} (h : InE w p n c l) (k : Nat) : InE (w.drewN k) p n c l := h.below (below_drewN (Below.refl _ _) k)
theorem InE.lt {w : World} {p : Option Addr} {n c : Nat} {l : List Ext} (h : InE w p n c l) (h0 : 0 < n) : ∀ a, p = some a → a.block < w.heap.size := by
  intro a ha
  obtain ⟨b, o, hp, hlt, _⟩ := h.at' h0
  rw [ha] at hp
  cases hp
  exact hlt
end Go.Proofs.Ytmboohadindlfaa
