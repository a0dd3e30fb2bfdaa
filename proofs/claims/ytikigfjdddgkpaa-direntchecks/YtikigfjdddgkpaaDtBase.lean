/-
  Blocks of memory; rows of entries and of records in memory.
-/
import Derived.Test.YtikigfjdddgkpaaOwn
import Derived.Deep.WholeRow
import Derived.Deep.MidRow
import Derived.Deep.RegionHeld3
import Derived.Great.BuildSlice
import Derived.Deep.LoopGhost
import Derived.Maps.AppendAt
namespace Go.Proofs.Ytikigfjdddgkpaa
open Go.RowKit
/-- Block g of the world holds just these cells, of that type; none is frozen. -/
def Blk (w : World) (g : Nat) (t : TypeId) (cs : List Value) : Prop := w.heap[g]? = some (.cells cs.toArray t (0, 0))
theorem Blk.lt {w : World} {g : Nat} {t : TypeId} {cs : List Value} (h : Blk w g t cs) : g < w.heap.size := by
  rcases Nat.lt_or_ge g w.heap.size with h' | h'
  · exact h'
  · rw [Blk, Array.getElem?_eq_none h'] at h; simp at h
theorem Blk.cell {w : World} {g : Nat} {t : TypeId} {cs : List Value} (h : Blk w g t cs) (i : Nat) : w.cell? ⟨g, i, none⟩ = cs[i]? := by
  rw [cell_of_row w g i _ t _ h]; simp
theorem Blk.cell' {w : World} {g : Nat} {t : TypeId} {cs : List Value} (h : Blk w g t cs) {i : Nat} {v : Value} (hv : cs[i]? = some v) : w.cell? ⟨g, i, none⟩ = some v := (h.cell i).trans hv
theorem Blk.frozen {w : World} {g : Nat} {t : TypeId} {cs : List Value} (h : Blk w g t cs) (i : Nat) : w.frozen? ⟨g, i, none⟩ = false := frozen_of_row w g i _ t h
theorem Blk.new (w : World) (t : TypeId) (cs : List Value) : Blk (w.alloc (.cells cs.toArray t)) w.heap.size t cs := heap_alloc_new w _
theorem Blk.new' (w : World) (t : TypeId) (cs : Array Value) : Blk (w.alloc (.cells cs t)) w.heap.size t cs.toList := heap_alloc_new w _
theorem Blk.alloc {w : World} {g : Nat} {t : TypeId} {cs : List Value} (h : Blk w g t cs) (o : Obj) : Blk (w.alloc o) g t cs := (Below.heap_alloc w o g h.lt).trans h
theorem Blk.drew {w : World} {g : Nat} {t : TypeId} {cs : List Value} (h : Blk w g t cs) : Blk w.drew g t cs := h
theorem Blk.drewN {w : World} {g : Nat} {t : TypeId} {cs : List Value} (h : Blk w g t cs) (n : Nat) : Blk (w.drewN n) g t cs := h
theorem Blk.set {w : World} {g : Nat} {t : TypeId} {cs : List Value} (h : Blk w g t cs) (i : Nat) (v : Value) : Blk (w.setCell ⟨g, i, none⟩ v) g t (cs.set i v) := by
  have := heap_setCell_same w g i cs.toArray t v h
  rw [Blk, this]; simp
theorem Blk.setOther {w : World} {g : Nat} {t : TypeId} {cs : List Value} (h : Blk w g t cs) (a : Addr) (v : Value) (hne : g ≠ a.block) : Blk (w.setCell a v) g t cs := (heap_setCell_other w a g v hne).trans h
theorem Blk.setRow {w : World} {g : Nat} {t : TypeId} {cs : List Value} (h : Blk w g t cs) (cs' : List Value) : Blk (w.setRow g cs'.toArray) g t cs' := setRow_heap w g _ _ t _ h
theorem Blk.setRow' {w : World} {g : Nat} {t : TypeId} {cs : List Value} (h : Blk w g t cs) (cs' : Array Value) : Blk (w.setRow g cs') g t cs'.toList := setRow_heap w g _ _ t _ h
theorem Blk.rowOther {w : World} {g : Nat} {t : TypeId} {cs : List Value} (h : Blk w g t cs) (k : Nat) (cs' : Array Value) (hne : g ≠ k) : Blk (w.setRow k cs') g t cs := (setRow_other w k g cs' hne).trans h
theorem Blk.below {w w' : World} {B g : Nat} {t : TypeId} {cs : List Value} (h : Blk w g t cs) (hb : Below B w w') (hg : g < B) : Blk w' g t cs := (hb.block g hg).trans h
theorem Blk.kept {w w' : World} {g : Nat} {t : TypeId} {cs : List Value} (h : Blk w g t cs) (hb : Below w.heap.size w w') : Blk w' g t cs := h.below hb h.lt
theorem Blk.same {w w' : World} {g : Nat} {t : TypeId} {cs : List Value} (h : Blk w g t cs) (hb : w'.heap[g]? = w.heap[g]?) : Blk w' g t cs := hb.trans h
/-- A part of a block, read as one value. -/
theorem Blk.load {w : World} {g : Nat} {t : TypeId} {cs : List Value} (h : Blk w g t cs) (o n : Nat) (xs : List Value) (hx : (cs.drop o).take n = xs) (hn : xs.length = n) :
    (loadCellsFrom ⟨g, o, none⟩ 0 n #[]).run Try.prog w = .ok xs.toArray w := by
  have := run_loadCells_list (P := Try.prog) (w := w) ⟨g, o, none⟩ xs (fun j v hv => by
    rw [addr_add]
    refine h.cell' ?_
    subst hx
    have hj : j < n := by
      rcases Nat.lt_or_ge j n with h' | h'
      · exact h'
      · rw [List.getElem?_eq_none (by omega)] at hv; simp at hv
    rw [List.getElem?_take_of_lt hj, List.getElem?_drop] at hv
    exact hv)
  rw [hn] at this
  simpa [loadCells] using this
/-- A value of several cells laid into a block. -/
theorem Blk.store {w : World} {g : Nat} {t : TypeId} {cs : List Value} (h : Blk w g t cs) (o : Nat) (xs : List Value) (hx : o + xs.length ≤ cs.length) (h1 : ∀ v ∈ xs, v.oneCell' = true) :
    (storeCells ⟨g, o, none⟩ xs 0).run Try.prog w = .ok () (w.setRow g (cs.take o ++ xs ++ cs.drop (o + xs.length)).toArray) := by
  have := run_storeCells_at (P := Try.prog) g o t xs 0 cs.toArray w h (by simpa using hx) h1
  simpa using this
/-- The worlds are the same but for what block g holds. -/
structure Turned (w w' : World) (g : Nat) : Prop where
  os : w'.os = w.os
  tape : w'.tape = w.tape
  output : w'.output = w.output
  size : w'.heap.size = w.heap.size
  block : ∀ k, k ≠ g → w'.heap[k]? = w.heap[k]?
theorem Turned.setRow (w : World) (g : Nat) (cs : Array Value) : Turned w (w.setRow g cs) g :=
  ⟨rfl, rfl, rfl, by simp [World.setRow], fun k hk => setRow_other w g k cs hk⟩
theorem Turned.setCell (w : World) (a : Addr) (v : Value) : Turned w (w.setCell a v) a.block :=
  ⟨rfl, rfl, rfl, by simp [World.setCell], fun k hk => heap_setCell_other w a k v hk⟩
theorem Blk.turned {w w' : World} {g k : Nat} {t : TypeId} {cs : List Value} (h : Blk w g t cs) (ht : Turned w w' k) (hne : g ≠ k) : Blk w' g t cs := (ht.block g hne).trans h
theorem Turned.below {B : Nat} {a w w' : World} {g : Nat} (ht : Turned w w' g) (h : Below B a w) (hg : B ≤ g) : Below B a w' :=
  ⟨ht.os.trans h.os, ht.tape.trans h.tape, ht.output.trans h.output, by rw [ht.size]; exact h.size, fun k hk => (ht.block k (by omega)).trans (h.block k hk)⟩
theorem Blk.range {w : World} {g : Nat} {t : TypeId} {cs : List Value} (h : Blk w g t cs) (o n : Nat) (xs : List Value) (hx : (cs.drop o).take n = xs) : w.rangeAt g o xs := by
  intro j v hv
  refine h.cell' ?_
  subst hx
  have hj : j < n := by
    rcases Nat.lt_or_ge j n with h' | h'
    · exact h'
    · rw [List.getElem?_eq_none (by rw [List.length_take]; omega)] at hv; simp at hv
  rw [List.getElem?_take_of_lt hj, List.getElem?_drop] at hv
  exact hv
/-- A store of a whole value into a block that is known whole. -/
theorem wpList_store_blk {ops : Array Oper} {rest : List Oper} {op : Oper} {a : Act} {w : World} {Q : Exit → Act → World → Prop} (hgd : op.guard = none) (ty : TypeId) (x y : Operand) (ho : op.op = .store ty x y)
    (g o : Nat) (xs : List Value) (hx : a.eval x = .pointer (some ⟨g, o, none⟩)) (hy : a.eval y = .agg xs.toArray) {t : TypeId} {cs : List Value} (h : Blk w g t cs) (hle : o + xs.length ≤ cs.length)
    (hi : (Try.prog.info? ty).map (·.size) = some xs.length) (h1 : ∀ v ∈ xs, v.oneCell' = true)
    (hK : ∀ w', Blk w' g t (cs.take o ++ xs ++ cs.drop (o + xs.length)) → Turned w w' g → wpList Try.prog ops Q rest (a.put op.dst undef) w') : wpList Try.prog ops Q (op :: rest) a w := by
  have hst := h.store o xs hle h1
  have hrun : (storeVar ty ⟨g, o, none⟩ (.agg xs.toArray)).run Try.prog w = .ok () (w.setRow g (cs.take o ++ xs ++ cs.drop (o + xs.length)).toArray) := by
    cases hq : Try.prog.info? ty with
    | none => simp [hq] at hi
    | some i =>
      have hs : xs.length = i.size := by simp [hq] at hi; omega
      simp only [storeVar, sizeOf, typeInfo, Sem.run_bind, Value.cells]
      simp [hs, hq, hst]
  refine wpList_plain hgd fun K hKK => ?_
  unfold Oper.wp execOp
  simp only [ho, hx, hy, Instr.storeAt, Instr.sureAddr, Sem.run_bind, Sem.run_pure, Result.andThen_ok, hrun]
  exact hKK _ _ (hK _ (h.setRow _) (Turned.setRow _ _ _))
theorem whole_row {cs xs : List Value} (h : cs.length = xs.length) : cs.take 0 ++ xs ++ cs.drop (0 + xs.length) = xs := by
  rw [List.take_zero, List.nil_append, Nat.zero_add, List.drop_of_length_le (by omega), List.append_nil]
theorem bt {a b c : World} (h : Below a.heap.size a b) (k : Below b.heap.size b c) : Below a.heap.size a c := h.trans (k.mono h.size)
/-- Whatever block is not in S lies as it lay. -/
structure Keep (S : Nat → Prop) (w w' : World) : Prop where
  os : w'.os = w.os
  tape : w'.tape = w.tape
  output : w'.output = w.output
  size : w.heap.size ≤ w'.heap.size
  block : ∀ k, k < w.heap.size → ¬ S k → w'.heap[k]? = w.heap[k]?
theorem Keep.refl (S : Nat → Prop) (w : World) : Keep S w w := ⟨rfl, rfl, rfl, Nat.le_refl _, fun _ _ _ => rfl⟩
theorem Keep.trans {S T : Nat → Prop} {a b c : World} (h : Keep S a b) (k : Keep T b c) (hT : ∀ j, j < a.heap.size → T j → S j) : Keep S a c :=
  ⟨k.os.trans h.os, k.tape.trans h.tape, k.output.trans h.output, Nat.le_trans h.size k.size, fun j hj hn => (k.block j (Nat.lt_of_lt_of_le hj h.size) (fun ht => hn (hT j hj ht))).trans (h.block j hj hn)⟩
theorem Keep.of_below {S : Nat → Prop} {w w' : World} (h : Below w.heap.size w w') : Keep S w w' := ⟨h.os, h.tape, h.output, h.size, fun k hk _ => h.block k hk⟩
theorem Keep.of_turned {S : Nat → Prop} {w w' : World} {g : Nat} (h : Turned w w' g) (hg : S g) : Keep S w w' := ⟨h.os, h.tape, h.output, by rw [h.size]; exact Nat.le_refl _, fun k _ hn => h.block k (fun e => hn (e ▸ hg))⟩
theorem Keep.of_grown {S : Nat → Prop} {w w' : World} {row : Option Nat} (h : w.grownBy w' row) (hr : ∀ k, row = some k → k < w.heap.size → S k) : Keep S w w' :=
  ⟨h.os, h.tape, h.output, h.size, fun k hk hn => h.block k hk (fun e => hn (hr k e.symm hk))⟩
theorem Keep.mono {S T : Nat → Prop} {w w' : World} (h : Keep S w w') (hs : ∀ k, k < w.heap.size → S k → T k) : Keep T w w' := ⟨h.os, h.tape, h.output, h.size, fun k hk hn => h.block k hk (fun e => hn (hs k hk e))⟩
theorem Keep.below {S : Nat → Prop} {w w' : World} {B : Nat} (h : Keep S w w') (hB : B ≤ w.heap.size) (hs : ∀ k, S k → B ≤ k) : Below B w w' := ⟨h.os, h.tape, h.output, h.size, fun k hk => h.block k (by omega) (fun e => by have := hs k e; omega)⟩
theorem Keep.drew {S : Nat → Prop} {w w' : World} (h : Keep S w w') : Keep S w w'.drew := ⟨h.os, h.tape, h.output, h.size, h.block⟩
theorem Blk.grown {w w' : World} {row : Option Nat} {g : Nat} {t : TypeId} {cs : List Value} (h : Blk w g t cs) (hg : w.grownBy w' row) (hne : some g ≠ row) : Blk w' g t cs := (hg.block g h.lt hne).trans h
theorem Blk.keep {S : Nat → Prop} {w w' : World} {g : Nat} {t : TypeId} {cs : List Value} (h : Blk w g t cs) (hk : Keep S w w') (hg : ¬ S g) : Blk w' g t cs := (hk.block g h.lt hg).trans h
theorem fold_set : ∀ (xs : List Value) (k : Nat) (cs : List Value), k + xs.length ≤ cs.length →
    (xs.zipIdx k).foldl (fun (cs : Array Value) (p : Value × Nat) => cs.setIfInBounds (0 + p.2) p.1) cs.toArray = (cs.take k ++ xs ++ cs.drop (k + xs.length)).toArray
  | [], k, cs, h => by simp
  | x :: r, k, cs, h => by
    simp only [List.length_cons] at h
    rw [List.zipIdx_cons, List.foldl_cons]
    have e : cs.toArray.setIfInBounds (0 + k) x = (cs.set k x).toArray := by simp
    simp only [e]
    rw [fold_set r (k + 1) (cs.set k x) (by simp; omega)]
    congr 1
    have hk : k < cs.length := by omega
    rw [List.take_set, List.drop_set_of_lt (by omega), List.take_succ_eq_append_getElem hk, List.set_append_right _ _ (by rw [List.length_take]; exact Nat.min_le_left _ _)]
    simp [show min k cs.length = k from by omega, show k + 1 + r.length = k + (r.length + 1) from by omega]
theorem fill_one (z xs : List Value) (n : Nat) (hz : z.length = n) (hx : xs.length = n) : Instr.fill (fun i => some (i * n, n)) z.toArray [(0, .agg xs.toArray)] = some xs.toArray := by
  have e := fold_set xs 0 z (by omega)
  rw [List.take_zero, List.nil_append, List.drop_of_length_le (by omega), List.append_nil] at e
  simp only [Instr.fill, Value.cells, List.size_toArray, Nat.zero_mul]
  rw [if_neg (by simp; omega)]
  rw [← Array.foldl_toList, Array.toList_zipIdx]
  simpa using e
theorem owns_slice {w : World} {B n : Nat} {e : TypeId} {z : Nat} {v : Value} {xs : List Value} (h : w.ownsRow B e z v n xs) : ∃ p c, v = .slice p n c := by
  rcases h.2 with ⟨rfl, rfl⟩ | ⟨g, cap, cur, rfl, _⟩
  · exact ⟨none, 0, rfl⟩
  · exact ⟨_, cap, rfl⟩
theorem newRange {w : World} {t : TypeId} (xs : List Value) : ∀ j u, xs[j]? = some u → (w.alloc (.cells xs.toArray t)).cell? ((⟨w.heap.size, 0, none⟩ : Addr).add j) = some u := by
  intro j u hu
  rw [addr_add, Nat.zero_add]
  exact (Blk.new w t xs).cell' hu
theorem Turned.trans {a b c : World} {g : Nat} (h : Turned a b g) (k : Turned b c g) : Turned a c g := ⟨k.os.trans h.os, k.tape.trans h.tape, k.output.trans h.output, k.size.trans h.size, fun j hj => (k.block j hj).trans (h.block j hj)⟩
theorem owns_base {w : World} {B B' : Nat} {e : TypeId} {s : Nat} {v : Value} {n : Nat} {xs : List Value} (h : w.ownsRow B e s v n xs) (hb : B' ≤ B) : w.ownsRow B' e s v n xs := by
  refine ⟨h.1, ?_⟩
  rcases h.2 with h' | ⟨g, cap, cur, rfl, hg, hr⟩
  · exact .inl h'
  · exact .inr ⟨g, cap, cur, rfl, Nat.le_trans hb hg, hr⟩
theorem below_appP {B : Nat} {w0 wr w1 : World} {o : Obj} {v : Value} {n : Nat} {e : TypeId} {z : Nat} {xs : List Value} (hbel : Below B w0 wr) (hB : B ≤ w0.heap.size) (hown : wr.ownsRow B e z v n xs) (hg : (wr.alloc o).grownBy w1 v.ownBlock) : Below B w0 w1 := by
  have hs := hbel.size
  refine (hbel.alloc (by omega) o).grown hg (by simp; omega) fun k hk => ?_
  rcases hown.2 with ⟨rfl, _⟩ | ⟨g, cap, cur, rfl, hg, _⟩
  · simp [Value.ownBlock] at hk
  · simp only [Value.ownBlock, Option.some.injEq] at hk
    omega
theorem owns_newP {w : World} {B : Nat} {e : TypeId} {z : Nat} {p : Option Addr} {m n c : Nat} {xs : List Value} (h : w.ownsRow B e z (.slice p m c) n xs) : ∀ a, p = some a → B ≤ a.block := by
  rcases h.2 with ⟨h1, _⟩ | ⟨g, cap, cur, h1, hg, _⟩
  · cases h1; intro a ha; cases ha
  · cases h1; intro a ha; cases ha; exact hg
theorem owns_drewN {w : World} {B : Nat} {e : TypeId} {s : Nat} {v : Value} {n : Nat} {xs : List Value} (h : w.ownsRow B e s v n xs) (k : Nat) : (w.drewN k).ownsRow B e s v n xs := h
theorem wp_store_blk {op : Oper} {a : Act} {w : World} {K : Act → World → Prop} {Q : Exit → Act → World → Prop} (ty : TypeId) (x y : Operand) (ho : op.op = .store ty x y)
    (g o : Nat) (xs : List Value) (hx : a.eval x = .pointer (some ⟨g, o, none⟩)) (hy : a.eval y = .agg xs.toArray) {t : TypeId} {cs : List Value} (h : Blk w g t cs) (hle : o + xs.length ≤ cs.length)
    (hi : (Try.prog.info? ty).map (·.size) = some xs.length) (h1 : ∀ v ∈ xs, v.oneCell' = true)
    (hK : ∀ w', Blk w' g t (cs.take o ++ xs ++ cs.drop (o + xs.length)) → Turned w w' g → K (a.put op.dst undef) w') : op.wp Try.prog a w K Q := by
  have hst := h.store o xs hle h1
  have hrun : (storeVar ty ⟨g, o, none⟩ (.agg xs.toArray)).run Try.prog w = .ok () (w.setRow g (cs.take o ++ xs ++ cs.drop (o + xs.length)).toArray) := by
    cases hq : Try.prog.info? ty with
    | none => simp [hq] at hi
    | some i =>
      have hs : xs.length = i.size := by simp [hq] at hi; omega
      simp only [storeVar, sizeOf, typeInfo, Sem.run_bind, Value.cells]
      simp [hs, hq, hst]
  unfold Oper.wp execOp
  simp only [ho, hx, hy, Instr.storeAt, Instr.sureAddr, Sem.run_bind, Sem.run_pure, Result.andThen_ok, hrun]
  exact hK _ (h.setRow _) (Turned.setRow _ _ _)
theorem Turned.cell {w w' : World} {g : Nat} (h : Turned w w' g) {a : Addr} (ha : a.block ≠ g) : w'.cell? a = w.cell? a := by
  simp only [World.cell?, h.block a.block ha]
theorem Blk.newAt {w : World} {g : Nat} (t : TypeId) (cs : Array Value) (hg : w.heap.size = g) : Blk (w.alloc (.cells cs t)) g t cs.toList := by subst hg; exact Blk.new' w t cs
theorem grown_of {w w' : World} (h : Below w.heap.size w w') : w.grownBy w' none := ⟨h.os, h.tape, h.output, h.size, fun k hk _ => h.block k hk⟩
structure Ent where
  nm : List UInt8
  ino : Int
  kd : Int
abbrev Ent.val (x : Ent) : Value := .agg #[.string ⟨x.nm.toArray⟩, .int .i64 x.ino, .int .i64 x.kd]
def Ent.cells (x : Ent) : List Value := [.string ⟨x.nm.toArray⟩, .int .i64 x.ino, .int .i64 x.kd]
def eN (l : List Ent) (i : Nat) : Ent := l.getD i ⟨[], 0, 0⟩
theorem eN_mem {l : List Ent} {k : Nat} (h : k < l.length) : eN l k ∈ l := by simp [eN, h]
theorem takeN_succ (l : List Ent) (k : Nat) (h : k < l.length) : l.take (k + 1) = l.take k ++ [eN l k] := by
  rw [List.take_succ_eq_append_getElem h]; simp [eN, h]
def flatN (l : List Ent) : List Value := l.flatMap Ent.cells
theorem flatN_cons (x : Ent) (l : List Ent) : flatN (x :: l) = .string ⟨x.nm.toArray⟩ :: .int .i64 x.ino :: .int .i64 x.kd :: flatN l := rfl
theorem flatN_length (l : List Ent) : (flatN l).length = l.length * 3 := by
  induction l with
  | nil => rfl
  | cons x l ih => rw [flatN_cons]; simp only [List.length_cons, ih]; omega
theorem flatN_append (l m : List Ent) : flatN (l ++ m) = flatN l ++ flatN m := by simp [flatN]
theorem flatN_one (l : List Ent) : ∀ u ∈ flatN l, u.oneCell' = true := by
  intro u hu
  obtain ⟨x, _, hx⟩ := List.mem_flatMap.1 hu
  simp only [Ent.cells, List.mem_cons, List.not_mem_nil, or_false] at hx
  rcases hx with rfl | rfl | rfl <;> rfl
theorem flatN_at {l : List Ent} {k : Nat} (h : k < l.length) : (flatN l)[k * 3]? = some (.string ⟨(eN l k).nm.toArray⟩) ∧ (flatN l)[k * 3 + 1]? = some (.int .i64 (eN l k).ino) ∧ (flatN l)[k * 3 + 2]? = some (.int .i64 (eN l k).kd) := by
  induction l generalizing k with
  | nil => simp at h
  | cons y l ih =>
    cases k with
    | zero => rw [flatN_cons]; simp [eN]
    | succ k =>
      have := ih (k := k) (by simpa using h)
      rw [flatN_cons, show (k + 1) * 3 = k * 3 + 1 + 1 + 1 by omega]
      simpa [eN] using this
/-- A slice of such things that lies in a world. -/
structure InN (w : World) (p : Option Addr) (n c : Nat) (l : List Ent) : Prop where
  len : l.length = n
  cap : n ≤ c
  max : c ≤ maxLen
  room : n ≤ 140737488355328
  at' : 0 < n → ∃ b o, p = some ⟨b, o, none⟩ ∧ b < w.heap.size ∧ ∀ i, i < n → w.cell? ⟨b, o + i * 3, none⟩ = some (.string ⟨(eN l i).nm.toArray⟩) ∧ w.cell? ⟨b, o + i * 3 + 1, none⟩ = some (.int .i64 (eN l i).ino) ∧ w.cell? ⟨b, o + i * 3 + 2, none⟩ = some (.int .i64 (eN l i).kd)
  nil : p = none → c = 0
theorem InN.below {w w' : World} {p : Option Addr} {n c : Nat} {l : List Ent} (h : InN w p n c l) (hb : Below w.heap.size w w') : InN w' p n c l :=
  ⟨h.len, h.cap, h.max, h.room, fun h0 => by
    obtain ⟨b, o, hp, hlt, hc⟩ := h.at' h0
    refine ⟨b, o, hp, Nat.lt_of_lt_of_le hlt hb.size, fun i hi => ?_⟩
    obtain ⟨h0, h1, h2⟩ := hc i hi
    exact ⟨(hb.cell (p := ⟨b, o + i * 3, none⟩) hlt).trans h0, (hb.cell (p := ⟨b, o + i * 3 + 1, none⟩) hlt).trans h1, (hb.cell (p := ⟨b, o + i * 3 + 2, none⟩) hlt).trans h2⟩, h.nil⟩
theorem InN.empty (w : World) : InN w none 0 0 [] := ⟨rfl, Nat.le_refl _, Nat.zero_le _, Nat.zero_le _, fun h => by omega, fun _ => rfl⟩
theorem InN.flat {w : World} {p : Option Addr} {n c : Nat} {l : List Ent} (h : InN w p n c l) {a : Addr} (ha : p = some a) : ∀ j u, (flatN l)[j]? = some u → w.cell? (a.add j) = some u := by
  intro j u hu
  have hj : j < l.length * 3 := by
    rcases Nat.lt_or_ge j (l.length * 3) with h' | h'
    · exact h'
    · rw [List.getElem?_eq_none (by rw [flatN_length]; exact h')] at hu; simp at hu
  have hl := h.len
  obtain ⟨b, o, hp, _, hc⟩ := h.at' (by omega)
  rw [ha] at hp
  cases hp
  obtain ⟨i, r, hir, hr⟩ : ∃ i r, j = i * 3 + r ∧ r < 3 := ⟨j / 3, j % 3, by omega, by omega⟩
  subst hir
  rw [addr_add, ← Nat.add_assoc]
  obtain ⟨h0, h1, h2⟩ := hc i (by omega)
  obtain ⟨f0, f1, f2⟩ := flatN_at (l := l) (k := i) (by omega)
  match r, hr with
  | 0, _ => rw [Nat.add_zero, f0] at hu; rw [← hu]; exact h0
  | 1, _ => rw [f1] at hu; rw [← hu]; exact h1
  | 2, _ => rw [f2] at hu; rw [← hu]; exact h2
theorem in_of_ownsN {w : World} {B : Nat} {v : Value} {n : Nat} {l : List Ent} (h : w.ownsRow B 24 3 v n (flatN l)) (hr : n ≤ 140737488355328) :
    ∃ p c, v = .slice p n c ∧ InN w p n c l := by
  have hl : l.length = n := by have := h.1; rw [flatN_length] at this; omega
  rcases h.2 with ⟨rfl, rfl⟩ | ⟨g, cap, cur, rfl, hg, hh, hnc, hcm, hsz, htk⟩
  · have : l = [] := List.eq_nil_of_length_eq_zero hl
    subst this
    exact ⟨none, 0, rfl, InN.empty w⟩
  · refine ⟨some ⟨g, 0, none⟩, cap, rfl, hl, hnc, hcm, hr, fun h0 => ⟨g, 0, rfl, ?_, fun i hi => ?_⟩, fun h => by simp at h⟩
    · rcases Nat.lt_or_ge g w.heap.size with h' | h'
      · exact h'
      · rw [Array.getElem?_eq_none h'] at hh; simp at hh
    · rw [Nat.zero_add]
      obtain ⟨f0, f1, f2⟩ := flatN_at (l := l) (k := i) (by omega)
      exact ⟨(World.ownsRow.cellAt h (i * 3) (by omega)).trans f0, (World.ownsRow.cellAt h (i * 3 + 1) (by omega)).trans f1, (World.ownsRow.cellAt h (i * 3 + 2) (by omega)).trans f2⟩
theorem infoN : (Try.prog.info? 24).map (fun i => (i.zero, i.size, i.bytes)) = some (some (.agg #[.string ⟨#[]⟩, .int .i64 0, .int .i64 0]), 3, 32) := by kernel_rfl
theorem sizeN : (Try.prog.info? 24).map (·.size) = some 3 := by kernel_rfl
theorem flatN_set {l : List Ent} {k : Nat} (r : Ent) (h : k < l.length) : (((flatN l).set (k * 3) (.string ⟨r.nm.toArray⟩)).set (k * 3 + 1) (.int .i64 r.ino)).set (k * 3 + 2) (.int .i64 r.kd) = flatN (l.set k r) := by
  induction l generalizing k with
  | nil => simp at h
  | cons y l ih =>
    cases k with
    | zero =>
      show _ = flatN (r :: l)
      rw [flatN_cons, flatN_cons]; simp
    | succ k =>
      rw [flatN_cons, List.set_cons_succ, flatN_cons, ← ih (by simpa using h), show (k + 1) * 3 = k * 3 + 1 + 1 + 1 by omega]
      simp
theorem run_storeN {w : World} {B g n c k : Nat} {l : List Ent} (h : w.ownsRow B 24 3 (.slice (some ⟨g, 0, none⟩) n c) n (flatN l)) (hk : k < n) (r : Ent) :
    ∃ w', (storeVar 24 ⟨g, k * 3, none⟩ r.val).run Try.prog w = .ok () w' ∧ w'.ownsRow B 24 3 (.slice (some ⟨g, 0, none⟩) n c) n (flatN (l.set k r)) ∧ Turned w w' g := by
  have hl : l.length = n := by have := h.1; rw [flatN_length] at this; omega
  obtain ⟨f0, f1, f2⟩ := flatN_at (l := l) (k := k) (by omega)
  have c0 := (h.cellAt (k * 3) (by omega)).trans f0
  have c1 := (h.cellAt (k * 3 + 1) (by omega)).trans f1
  have c2 := (h.cellAt (k * 3 + 2) (by omega)).trans f2
  have hst := run_storeCells_cells (P := Try.prog) g (k * 3) [.string ⟨r.nm.toArray⟩, .int .i64 r.ino, .int .i64 r.kd] 0 w (fun j hj => by
      match j, hj with
      | 0, _ => simp [c0]
      | 1, _ => simp [c1]
      | 2, _ => simp [c2]) (fun j _ => by simpa using h.frozenAt (k * 3 + (0 + j))) (by simp [Value.oneCell'])
  have hs := (((h.stored (k * 3) (.string ⟨r.nm.toArray⟩)).1.stored (k * 3 + 1) (.int .i64 r.ino)).1.stored (k * 3 + 2) (.int .i64 r.kd)).1
  rw [flatN_set r (by omega)] at hs
  refine ⟨_, ?_, hs, (((Turned.setCell w ⟨g, k * 3, none⟩ _).trans (Turned.setCell _ ⟨g, k * 3 + 1, none⟩ _)).trans (Turned.setCell _ ⟨g, k * 3 + 2, none⟩ _))⟩
  cases hq : Try.prog.info? 24 with
  | none => have := sizeN; simp [hq] at this
  | some i =>
    have hsz : i.size = 3 := by have := sizeN; simpa [hq] using this
    simp only [storeVar, sizeOf, typeInfo, Sem.run_bind, Value.cells]
    simp [hsz, hq, hst, World.setCells]
theorem wp_storeN {op : Oper} {a : Act} {w : World} {K : Act → World → Prop} {Q : Exit → Act → World → Prop} (x y : Operand) (ho : op.op = .store 24 x y) (g k : Nat) (r : Ent) (hx : a.eval x = .pointer (some ⟨g, k * 3, none⟩)) (hy : a.eval y = r.val)
    {B n c : Nat} {l : List Ent} (h : w.ownsRow B 24 3 (.slice (some ⟨g, 0, none⟩) n c) n (flatN l)) (hk : k < n)
    (hK : ∀ w', w'.ownsRow B 24 3 (.slice (some ⟨g, 0, none⟩) n c) n (flatN (l.set k r)) → Turned w w' g → K (a.put op.dst undef) w') : op.wp Try.prog a w K Q := by
  obtain ⟨w', hrun, hown, ht⟩ := run_storeN h hk r
  unfold Oper.wp execOp
  simp only [ho, hx, hy, Instr.storeAt, Instr.sureAddr, Sem.run_bind, Sem.run_pure, Result.andThen_ok, hrun]
  exact hK _ hown ht
structure Rc where
  pl : Int
  ln : Int
  nm : List UInt8
  ino : Int
  kd : Int
abbrev Rc.val (x : Rc) : Value := .agg #[.int .i64 x.pl, .int .i64 x.ln, .string ⟨x.nm.toArray⟩, .int .i64 x.ino, .int .i64 x.kd]
def Rc.cells (x : Rc) : List Value := [.int .i64 x.pl, .int .i64 x.ln, .string ⟨x.nm.toArray⟩, .int .i64 x.ino, .int .i64 x.kd]
def eR (l : List Rc) (i : Nat) : Rc := l.getD i ⟨0, 0, [], 0, 0⟩
theorem eR_mem {l : List Rc} {k : Nat} (h : k < l.length) : eR l k ∈ l := by simp [eR, h]
theorem takeR_succ (l : List Rc) (k : Nat) (h : k < l.length) : l.take (k + 1) = l.take k ++ [eR l k] := by
  rw [List.take_succ_eq_append_getElem h]; simp [eR, h]
def flatR (l : List Rc) : List Value := l.flatMap Rc.cells
theorem flatR_cons (x : Rc) (l : List Rc) : flatR (x :: l) = .int .i64 x.pl :: .int .i64 x.ln :: .string ⟨x.nm.toArray⟩ :: .int .i64 x.ino :: .int .i64 x.kd :: flatR l := rfl
theorem flatR_length (l : List Rc) : (flatR l).length = l.length * 5 := by
  induction l with
  | nil => rfl
  | cons x l ih => rw [flatR_cons]; simp only [List.length_cons, ih]; omega
theorem flatR_append (l m : List Rc) : flatR (l ++ m) = flatR l ++ flatR m := by simp [flatR]
theorem flatR_one (l : List Rc) : ∀ u ∈ flatR l, u.oneCell' = true := by
  intro u hu
  obtain ⟨x, _, hx⟩ := List.mem_flatMap.1 hu
  simp only [Rc.cells, List.mem_cons, List.not_mem_nil, or_false] at hx
  rcases hx with rfl | rfl | rfl | rfl | rfl <;> rfl
theorem flatR_at {l : List Rc} {k : Nat} (h : k < l.length) : (flatR l)[k * 5]? = some (.int .i64 (eR l k).pl) ∧ (flatR l)[k * 5 + 1]? = some (.int .i64 (eR l k).ln) ∧ (flatR l)[k * 5 + 2]? = some (.string ⟨(eR l k).nm.toArray⟩) ∧ (flatR l)[k * 5 + 3]? = some (.int .i64 (eR l k).ino) ∧ (flatR l)[k * 5 + 4]? = some (.int .i64 (eR l k).kd) := by
  induction l generalizing k with
  | nil => simp at h
  | cons y l ih =>
    cases k with
    | zero => rw [flatR_cons]; simp [eR]
    | succ k =>
      have := ih (k := k) (by simpa using h)
      rw [flatR_cons, show (k + 1) * 5 = k * 5 + 1 + 1 + 1 + 1 + 1 by omega]
      simpa [eR] using this
/-- A slice of such things that lies in a world. -/
structure InR (w : World) (p : Option Addr) (n c : Nat) (l : List Rc) : Prop where
  len : l.length = n
  cap : n ≤ c
  max : c ≤ maxLen
  room : n ≤ 140737488355328
  at' : 0 < n → ∃ b o, p = some ⟨b, o, none⟩ ∧ b < w.heap.size ∧ ∀ i, i < n → w.cell? ⟨b, o + i * 5, none⟩ = some (.int .i64 (eR l i).pl) ∧ w.cell? ⟨b, o + i * 5 + 1, none⟩ = some (.int .i64 (eR l i).ln) ∧ w.cell? ⟨b, o + i * 5 + 2, none⟩ = some (.string ⟨(eR l i).nm.toArray⟩) ∧ w.cell? ⟨b, o + i * 5 + 3, none⟩ = some (.int .i64 (eR l i).ino) ∧ w.cell? ⟨b, o + i * 5 + 4, none⟩ = some (.int .i64 (eR l i).kd)
  nil : p = none → c = 0
theorem InR.below {w w' : World} {p : Option Addr} {n c : Nat} {l : List Rc} (h : InR w p n c l) (hb : Below w.heap.size w w') : InR w' p n c l :=
  ⟨h.len, h.cap, h.max, h.room, fun h0 => by
    obtain ⟨b, o, hp, hlt, hc⟩ := h.at' h0
    refine ⟨b, o, hp, Nat.lt_of_lt_of_le hlt hb.size, fun i hi => ?_⟩
    obtain ⟨h0, h1, h2, h3, h4⟩ := hc i hi
    exact ⟨(hb.cell (p := ⟨b, o + i * 5, none⟩) hlt).trans h0, (hb.cell (p := ⟨b, o + i * 5 + 1, none⟩) hlt).trans h1, (hb.cell (p := ⟨b, o + i * 5 + 2, none⟩) hlt).trans h2, (hb.cell (p := ⟨b, o + i * 5 + 3, none⟩) hlt).trans h3, (hb.cell (p := ⟨b, o + i * 5 + 4, none⟩) hlt).trans h4⟩, h.nil⟩
theorem InR.empty (w : World) : InR w none 0 0 [] := ⟨rfl, Nat.le_refl _, Nat.zero_le _, Nat.zero_le _, fun h => by omega, fun _ => rfl⟩
theorem InR.flat {w : World} {p : Option Addr} {n c : Nat} {l : List Rc} (h : InR w p n c l) {a : Addr} (ha : p = some a) : ∀ j u, (flatR l)[j]? = some u → w.cell? (a.add j) = some u := by
  intro j u hu
  have hj : j < l.length * 5 := by
    rcases Nat.lt_or_ge j (l.length * 5) with h' | h'
    · exact h'
    · rw [List.getElem?_eq_none (by rw [flatR_length]; exact h')] at hu; simp at hu
  have hl := h.len
  obtain ⟨b, o, hp, _, hc⟩ := h.at' (by omega)
  rw [ha] at hp
  cases hp
  obtain ⟨i, r, hir, hr⟩ : ∃ i r, j = i * 5 + r ∧ r < 5 := ⟨j / 5, j % 5, by omega, by omega⟩
  subst hir
  rw [addr_add, ← Nat.add_assoc]
  obtain ⟨h0, h1, h2, h3, h4⟩ := hc i (by omega)
  obtain ⟨f0, f1, f2, f3, f4⟩ := flatR_at (l := l) (k := i) (by omega)
  match r, hr with
  | 0, _ => rw [Nat.add_zero, f0] at hu; rw [← hu]; exact h0
  | 1, _ => rw [f1] at hu; rw [← hu]; exact h1
  | 2, _ => rw [f2] at hu; rw [← hu]; exact h2
  | 3, _ => rw [f3] at hu; rw [← hu]; exact h3
  | 4, _ => rw [f4] at hu; rw [← hu]; exact h4
theorem in_of_ownsR {w : World} {B : Nat} {v : Value} {n : Nat} {l : List Rc} (h : w.ownsRow B 69 5 v n (flatR l)) (hr : n ≤ 140737488355328) :
    ∃ p c, v = .slice p n c ∧ InR w p n c l := by
  have hl : l.length = n := by have := h.1; rw [flatR_length] at this; omega
  rcases h.2 with ⟨rfl, rfl⟩ | ⟨g, cap, cur, rfl, hg, hh, hnc, hcm, hsz, htk⟩
  · have : l = [] := List.eq_nil_of_length_eq_zero hl
    subst this
    exact ⟨none, 0, rfl, InR.empty w⟩
  · refine ⟨some ⟨g, 0, none⟩, cap, rfl, hl, hnc, hcm, hr, fun h0 => ⟨g, 0, rfl, ?_, fun i hi => ?_⟩, fun h => by simp at h⟩
    · rcases Nat.lt_or_ge g w.heap.size with h' | h'
      · exact h'
      · rw [Array.getElem?_eq_none h'] at hh; simp at hh
    · rw [Nat.zero_add]
      obtain ⟨f0, f1, f2, f3, f4⟩ := flatR_at (l := l) (k := i) (by omega)
      exact ⟨(World.ownsRow.cellAt h (i * 5) (by omega)).trans f0, (World.ownsRow.cellAt h (i * 5 + 1) (by omega)).trans f1, (World.ownsRow.cellAt h (i * 5 + 2) (by omega)).trans f2, (World.ownsRow.cellAt h (i * 5 + 3) (by omega)).trans f3, (World.ownsRow.cellAt h (i * 5 + 4) (by omega)).trans f4⟩
theorem infoR : (Try.prog.info? 69).map (fun i => (i.zero, i.size, i.bytes)) = some (some (.agg #[.int .i64 0, .int .i64 0, .string ⟨#[]⟩, .int .i64 0, .int .i64 0]), 5, 48) := by kernel_rfl
theorem sizeR : (Try.prog.info? 69).map (·.size) = some 5 := by kernel_rfl
theorem flatR_set {l : List Rc} {k : Nat} (r : Rc) (h : k < l.length) : (((((flatR l).set (k * 5) (.int .i64 r.pl)).set (k * 5 + 1) (.int .i64 r.ln)).set (k * 5 + 2) (.string ⟨r.nm.toArray⟩)).set (k * 5 + 3) (.int .i64 r.ino)).set (k * 5 + 4) (.int .i64 r.kd) = flatR (l.set k r) := by
  induction l generalizing k with
  | nil => simp at h
  | cons y l ih =>
    cases k with
    | zero =>
      show _ = flatR (r :: l)
      rw [flatR_cons, flatR_cons]; simp
    | succ k =>
      rw [flatR_cons, List.set_cons_succ, flatR_cons, ← ih (by simpa using h), show (k + 1) * 5 = k * 5 + 1 + 1 + 1 + 1 + 1 by omega]
      simp
theorem run_storeR {w : World} {B g n c k : Nat} {l : List Rc} (h : w.ownsRow B 69 5 (.slice (some ⟨g, 0, none⟩) n c) n (flatR l)) (hk : k < n) (r : Rc) :
    ∃ w', (storeVar 69 ⟨g, k * 5, none⟩ r.val).run Try.prog w = .ok () w' ∧ w'.ownsRow B 69 5 (.slice (some ⟨g, 0, none⟩) n c) n (flatR (l.set k r)) ∧ Turned w w' g := by
  have hl : l.length = n := by have := h.1; rw [flatR_length] at this; omega
  obtain ⟨f0, f1, f2, f3, f4⟩ := flatR_at (l := l) (k := k) (by omega)
  have c0 := (h.cellAt (k * 5) (by omega)).trans f0
  have c1 := (h.cellAt (k * 5 + 1) (by omega)).trans f1
  have c2 := (h.cellAt (k * 5 + 2) (by omega)).trans f2
  have c3 := (h.cellAt (k * 5 + 3) (by omega)).trans f3
  have c4 := (h.cellAt (k * 5 + 4) (by omega)).trans f4
  have hst := run_storeCells_cells (P := Try.prog) g (k * 5) [.int .i64 r.pl, .int .i64 r.ln, .string ⟨r.nm.toArray⟩, .int .i64 r.ino, .int .i64 r.kd] 0 w (fun j hj => by
      match j, hj with
      | 0, _ => simp [c0]
      | 1, _ => simp [c1]
      | 2, _ => simp [c2]
      | 3, _ => simp [c3]
      | 4, _ => simp [c4]) (fun j _ => by simpa using h.frozenAt (k * 5 + (0 + j))) (by simp [Value.oneCell'])
  have hs := (((((h.stored (k * 5) (.int .i64 r.pl)).1.stored (k * 5 + 1) (.int .i64 r.ln)).1.stored (k * 5 + 2) (.string ⟨r.nm.toArray⟩)).1.stored (k * 5 + 3) (.int .i64 r.ino)).1.stored (k * 5 + 4) (.int .i64 r.kd)).1
  rw [flatR_set r (by omega)] at hs
  refine ⟨_, ?_, hs, (((((Turned.setCell w ⟨g, k * 5, none⟩ _).trans (Turned.setCell _ ⟨g, k * 5 + 1, none⟩ _)).trans (Turned.setCell _ ⟨g, k * 5 + 2, none⟩ _)).trans (Turned.setCell _ ⟨g, k * 5 + 3, none⟩ _)).trans (Turned.setCell _ ⟨g, k * 5 + 4, none⟩ _))⟩
  cases hq : Try.prog.info? 69 with
  | none => have := sizeR; simp [hq] at this
  | some i =>
    have hsz : i.size = 5 := by have := sizeR; simpa [hq] using this
    simp only [storeVar, sizeOf, typeInfo, Sem.run_bind, Value.cells]
    simp [hsz, hq, hst, World.setCells]
theorem wp_storeR {op : Oper} {a : Act} {w : World} {K : Act → World → Prop} {Q : Exit → Act → World → Prop} (x y : Operand) (ho : op.op = .store 69 x y) (g k : Nat) (r : Rc) (hx : a.eval x = .pointer (some ⟨g, k * 5, none⟩)) (hy : a.eval y = r.val)
    {B n c : Nat} {l : List Rc} (h : w.ownsRow B 69 5 (.slice (some ⟨g, 0, none⟩) n c) n (flatR l)) (hk : k < n)
    (hK : ∀ w', w'.ownsRow B 69 5 (.slice (some ⟨g, 0, none⟩) n c) n (flatR (l.set k r)) → Turned w w' g → K (a.put op.dst undef) w') : op.wp Try.prog a w K Q := by
  obtain ⟨w', hrun, hown, ht⟩ := run_storeR h hk r
  unfold Oper.wp execOp
  simp only [ho, hx, hy, Instr.storeAt, Instr.sureAddr, Sem.run_bind, Sem.run_pure, Result.andThen_ok, hrun]
  exact hK _ hown ht
theorem flatN_snoc (l : List Ent) (r : Ent) : flatN l ++ [.string ⟨r.nm.toArray⟩, .int .i64 r.ino, .int .i64 r.kd] = flatN (l ++ [r]) := by rw [flatN_append]; simp [flatN, Ent.cells]
theorem flatR_snoc (l : List Rc) (r : Rc) : flatR l ++ [.int .i64 r.pl, .int .i64 r.ln, .string ⟨r.nm.toArray⟩, .int .i64 r.ino, .int .i64 r.kd] = flatR (l ++ [r]) := by rw [flatR_append]; simp [flatR, Rc.cells]
end Go.Proofs.Ytikigfjdddgkpaa
