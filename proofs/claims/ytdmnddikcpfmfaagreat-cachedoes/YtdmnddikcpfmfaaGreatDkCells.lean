/-
  A block of memory as a row of cells, and its parts read and written as one value.
-/
import Derived.Test.YtdmnddikcpfmfaaGreatBits
import Derived.Deep.WholeRow
import Derived.Deep.MidRow
import Derived.Deep.RegionHeld3
import Derived.Great.BuildSlice
import Derived.Deep.LoopGhost
import Derived.Maps.AppendAt
namespace Go.Proofs.YtdmnddikcpfmfaaGreat
open Go.RowKit
/-- Block g of the world holds just these cells, of that type; none is frozen. -/
def Blk (w : World) (g : Nat) (t : TypeId) (cs : List Value) : Prop := w.heap[g]? = some (.cells cs.toArray t (0, 0))
theorem Blk.lt {w : World} {g : Nat} {t : TypeId} {cs : List Value} (h : Blk w g t cs) : g < w.heap.size := by
  rcases Nat.lt_or_ge g w.heap.size with h' | h'
  · exact h'
  · rw [Blk, Array.getElem?_eq_none h'] at h; simp at h
theorem Blk.cell {w : World} {g : Nat} {t : TypeId} {cs : List Value} (h : Blk w g t cs) (i : Nat) : w.cell? ⟨g, i, none⟩ = cs[i]? := by
  rw [cell_of_row w g i _ t _ h]; simp
theorem Blk.cell' {w : World} {g : Nat} {t : TypeId} {cs : List Value} (h : Blk w g t cs) {i : Nat} {v : Value} (hv : cs[i]? = some v) : w.cell? ⟨g, i, none⟩ = some v := (h.cell i).trans hv
theorem Blk.frozen {w : World} {g : Nat} {t : TypeId} {cs : List Value} (h : Blk w g t cs) (i : Nat) : w.frozen? ⟨g, i, none⟩ = false := frozen_of_row w g i _ t h
theorem Blk.new (w : World) (t : TypeId) (cs : List Value) : Blk (w.alloc (.cells cs.toArray t)) w.heap.size t cs := heap_alloc_new w _
theorem Blk.new' (w : World) (t : TypeId) (cs : Array Value) : Blk (w.alloc (.cells cs t)) w.heap.size t cs.toList := heap_alloc_new w _
theorem Blk.alloc {w : World} {g : Nat} {t : TypeId} {cs : List Value} (h : Blk w g t cs) (o : Obj) : Blk (w.alloc o) g t cs := (Below.heap_alloc w o g h.lt).trans h
theorem Blk.drew {w : World} {g : Nat} {t : TypeId} {cs : List Value} (h : Blk w g t cs) : Blk w.drew g t cs := h
theorem Blk.drewN {w : World} {g : Nat} {t : TypeId} {cs : List Value} (h : Blk w g t cs) (n : Nat) : Blk (w.drewN n) g t cs := h
theorem Blk.set {w : World} {g : Nat} {t : TypeId} {cs : List Value} (h : Blk w g t cs) (i : Nat) (v : Value) : Blk (w.setCell ⟨g, i, none⟩ v) g t (cs.set i v) := by
  have := heap_setCell_same w g i cs.toArray t v h
  rw [Blk, this]; simp
theorem Blk.setOther {w : World} {g : Nat} {t : TypeId} {cs : List Value} (h : Blk w g t cs) (a : Addr) (v : Value) (hne : g ≠ a.block) : Blk (w.setCell a v) g t cs := (heap_setCell_other w a g v hne).trans h
theorem Blk.setRow {w : World} {g : Nat} {t : TypeId} {cs : List Value} (h : Blk w g t cs) (cs' : List Value) : Blk (w.setRow g cs'.toArray) g t cs' := setRow_heap w g _ _ t _ h
theorem Blk.setRow' {w : World} {g : Nat} {t : TypeId} {cs : List Value} (h : Blk w g t cs) (cs' : Array Value) : Blk (w.setRow g cs') g t cs'.toList := setRow_heap w g _ _ t _ h
theorem Blk.rowOther {w : World} {g : Nat} {t : TypeId} {cs : List Value} (h : Blk w g t cs) (k : Nat) (cs' : Array Value) (hne : g ≠ k) : Blk (w.setRow k cs') g t cs := (setRow_other w k g cs' hne).trans h
theorem Blk.below {w w' : World} {B g : Nat} {t : TypeId} {cs : List Value} (h : Blk w g t cs) (hb : Below B w w') (hg : g < B) : Blk w' g t cs := (hb.block g hg).trans h
theorem Blk.kept {w w' : World} {g : Nat} {t : TypeId} {cs : List Value} (h : Blk w g t cs) (hb : Below w.heap.size w w') : Blk w' g t cs := h.below hb h.lt
theorem Blk.same {w w' : World} {g : Nat} {t : TypeId} {cs : List Value} (h : Blk w g t cs) (hb : w'.heap[g]? = w.heap[g]?) : Blk w' g t cs := hb.trans h
/-- A part of a block, read as one value. -/
theorem Blk.load {w : World} {g : Nat} {t : TypeId} {cs : List Value} (h : Blk w g t cs) (o n : Nat) (xs : List Value) (hx : (cs.drop o).take n = xs) (hn : xs.length = n) :
    (loadCellsFrom ⟨g, o, none⟩ 0 n #[]).run Tryz.prog w = .ok xs.toArray w := by
  have := run_loadCells_list (P := Tryz.prog) (w := w) ⟨g, o, none⟩ xs (fun j v hv => by
    rw [addr_add]
    refine h.cell' ?_
    subst hx
    have hj : j < n := by
      rcases Nat.lt_or_ge j n with h' | h'
      · exact h'
      · rw [List.getElem?_eq_none (by omega)] at hv; simp at hv
    rw [List.getElem?_take_of_lt hj, List.getElem?_drop] at hv
    exact hv)
  rw [hn] at this
  simpa [loadCells] using this
/-- A value of several cells laid into a block. -/
theorem Blk.store {w : World} {g : Nat} {t : TypeId} {cs : List Value} (h : Blk w g t cs) (o : Nat) (xs : List Value) (hx : o + xs.length ≤ cs.length) (h1 : ∀ v ∈ xs, v.oneCell' = true) :
    (storeCells ⟨g, o, none⟩ xs 0).run Tryz.prog w = .ok () (w.setRow g (cs.take o ++ xs ++ cs.drop (o + xs.length)).toArray) := by
  have := run_storeCells_at (P := Tryz.prog) g o t xs 0 cs.toArray w h (by simpa using hx) h1
  simpa using this
/-- The worlds are the same but for what block g holds. -/
structure Turned (w w' : World) (g : Nat) : Prop where
  os : w'.os = w.os
  tape : w'.tape = w.tape
  output : w'.output = w.output
  size : w'.heap.size = w.heap.size
  block : ∀ k, k ≠ g → w'.heap[k]? = w.heap[k]?
theorem Turned.setRow (w : World) (g : Nat) (cs : Array Value) : Turned w (w.setRow g cs) g :=
  ⟨rfl, rfl, rfl, by simp [World.setRow], fun k hk => setRow_other w g k cs hk⟩
theorem Turned.setCell (w : World) (a : Addr) (v : Value) : Turned w (w.setCell a v) a.block :=
  ⟨rfl, rfl, rfl, by simp [World.setCell], fun k hk => heap_setCell_other w a k v hk⟩
theorem Blk.turned {w w' : World} {g k : Nat} {t : TypeId} {cs : List Value} (h : Blk w g t cs) (ht : Turned w w' k) (hne : g ≠ k) : Blk w' g t cs := (ht.block g hne).trans h
theorem Turned.below {B : Nat} {a w w' : World} {g : Nat} (ht : Turned w w' g) (h : Below B a w) (hg : B ≤ g) : Below B a w' :=
  ⟨ht.os.trans h.os, ht.tape.trans h.tape, ht.output.trans h.output, by rw [ht.size]; exact h.size, fun k hk => (ht.block k (by omega)).trans (h.block k hk)⟩
theorem Blk.range {w : World} {g : Nat} {t : TypeId} {cs : List Value} (h : Blk w g t cs) (o n : Nat) (xs : List Value) (hx : (cs.drop o).take n = xs) : w.rangeAt g o xs := by
  intro j v hv
  refine h.cell' ?_
  subst hx
  have hj : j < n := by
    rcases Nat.lt_or_ge j n with h' | h'
    · exact h'
    · rw [List.getElem?_eq_none (by rw [List.length_take]; omega)] at hv; simp at hv
  rw [List.getElem?_take_of_lt hj, List.getElem?_drop] at hv
  exact hv
/-- A store of a whole value into a block that is known whole. -/
theorem wpList_store_blk {ops : Array Oper} {rest : List Oper} {op : Oper} {a : Act} {w : World} {Q : Exit → Act → World → Prop} (hgd : op.guard = none) (ty : TypeId) (x y : Operand) (ho : op.op = .store ty x y)
    (g o : Nat) (xs : List Value) (hx : a.eval x = .pointer (some ⟨g, o, none⟩)) (hy : a.eval y = .agg xs.toArray) {t : TypeId} {cs : List Value} (h : Blk w g t cs) (hle : o + xs.length ≤ cs.length)
    (hi : (Tryz.prog.info? ty).map (·.size) = some xs.length) (h1 : ∀ v ∈ xs, v.oneCell' = true)
    (hK : ∀ w', Blk w' g t (cs.take o ++ xs ++ cs.drop (o + xs.length)) → Turned w w' g → wpList Tryz.prog ops Q rest (a.put op.dst undef) w') : wpList Tryz.prog ops Q (op :: rest) a w := by
  have hst := h.store o xs hle h1
  have hrun : (storeVar ty ⟨g, o, none⟩ (.agg xs.toArray)).run Tryz.prog w = .ok () (w.setRow g (cs.take o ++ xs ++ cs.drop (o + xs.length)).toArray) := by
    cases hq : Tryz.prog.info? ty with
    | none => simp [hq] at hi
    | some i =>
      have hs : xs.length = i.size := by simp [hq] at hi; omega
      simp only [storeVar, sizeOf, typeInfo, Sem.run_bind, Value.cells]
      simp [hs, hq, hst]
  refine wpList_plain hgd fun K hKK => ?_
  unfold Oper.wp execOp
  simp only [ho, hx, hy, Instr.storeAt, Instr.sureAddr, Sem.run_bind, Sem.run_pure, Result.andThen_ok, hrun]
  exact hKK _ _ (hK _ (h.setRow _) (Turned.setRow _ _ _))
/-- The bytes of a page as cells. -/
theorem vals_all (xs : List Nat) : (vals xs).toArray.all (·.oneCell') = true := by
  rw [Array.all_eq_true]
  intro i hi
  exact vals_one xs _ (by simp)
theorem whole_row {cs xs : List Value} (h : cs.length = xs.length) : cs.take 0 ++ xs ++ cs.drop (0 + xs.length) = xs := by
  rw [List.take_zero, List.nil_append, Nat.zero_add, List.drop_of_length_le (by omega), List.append_nil]
theorem bt {a b c : World} (h : Below a.heap.size a b) (k : Below b.heap.size b c) : Below a.heap.size a c := h.trans (k.mono h.size)
/-- Whatever block is not in S lies as it lay. -/
structure Keep (S : Nat → Prop) (w w' : World) : Prop where
  os : w'.os = w.os
  tape : w'.tape = w.tape
  output : w'.output = w.output
  size : w.heap.size ≤ w'.heap.size
  block : ∀ k, k < w.heap.size → ¬ S k → w'.heap[k]? = w.heap[k]?
theorem Keep.refl (S : Nat → Prop) (w : World) : Keep S w w := ⟨rfl, rfl, rfl, Nat.le_refl _, fun _ _ _ => rfl⟩
theorem Keep.trans {S T : Nat → Prop} {a b c : World} (h : Keep S a b) (k : Keep T b c) (hT : ∀ j, j < a.heap.size → T j → S j) : Keep S a c :=
  ⟨k.os.trans h.os, k.tape.trans h.tape, k.output.trans h.output, Nat.le_trans h.size k.size, fun j hj hn => (k.block j (Nat.lt_of_lt_of_le hj h.size) (fun ht => hn (hT j hj ht))).trans (h.block j hj hn)⟩
theorem Keep.of_below {S : Nat → Prop} {w w' : World} (h : Below w.heap.size w w') : Keep S w w' := ⟨h.os, h.tape, h.output, h.size, fun k hk _ => h.block k hk⟩
theorem Keep.of_turned {S : Nat → Prop} {w w' : World} {g : Nat} (h : Turned w w' g) (hg : S g) : Keep S w w' := ⟨h.os, h.tape, h.output, by rw [h.size]; exact Nat.le_refl _, fun k _ hn => h.block k (fun e => hn (e ▸ hg))⟩
theorem Keep.of_grown {S : Nat → Prop} {w w' : World} {row : Option Nat} (h : w.grownBy w' row) (hr : ∀ k, row = some k → k < w.heap.size → S k) : Keep S w w' :=
  ⟨h.os, h.tape, h.output, h.size, fun k hk hn => h.block k hk (fun e => hn (hr k e.symm hk))⟩
theorem Keep.mono {S T : Nat → Prop} {w w' : World} (h : Keep S w w') (hs : ∀ k, k < w.heap.size → S k → T k) : Keep T w w' := ⟨h.os, h.tape, h.output, h.size, fun k hk hn => h.block k hk (fun e => hn (hs k hk e))⟩
theorem Keep.below {S : Nat → Prop} {w w' : World} {B : Nat} (h : Keep S w w') (hB : B ≤ w.heap.size) (hs : ∀ k, S k → B ≤ k) : Below B w w' := ⟨h.os, h.tape, h.output, h.size, fun k hk => h.block k (by omega) (fun e => by have := hs k e; omega)⟩
theorem Keep.drew {S : Nat → Prop} {w w' : World} (h : Keep S w w') : Keep S w w'.drew := ⟨h.os, h.tape, h.output, h.size, h.block⟩
theorem Blk.grown {w w' : World} {row : Option Nat} {g : Nat} {t : TypeId} {cs : List Value} (h : Blk w g t cs) (hg : w.grownBy w' row) (hne : some g ≠ row) : Blk w' g t cs := (hg.block g h.lt hne).trans h
theorem Blk.keep {S : Nat → Prop} {w w' : World} {g : Nat} {t : TypeId} {cs : List Value} (h : Blk w g t cs) (hk : Keep S w w') (hg : ¬ S g) : Blk w' g t cs := (hk.block g h.lt hg).trans h
theorem fold_set : ∀ (xs : List Value) (k : Nat) (cs : List Value), k + xs.length ≤ cs.length →
    (xs.zipIdx k).foldl (fun (cs : Array Value) (p : Value × Nat) => cs.setIfInBounds (0 + p.2) p.1) cs.toArray = (cs.take k ++ xs ++ cs.drop (k + xs.length)).toArray
  | [], k, cs, h => by simp
  | x :: r, k, cs, h => by
    simp only [List.length_cons] at h
    rw [List.zipIdx_cons, List.foldl_cons]
    have e : cs.toArray.setIfInBounds (0 + k) x = (cs.set k x).toArray := by simp
    simp only [e]
    rw [fold_set r (k + 1) (cs.set k x) (by simp; omega)]
    congr 1
    have hk : k < cs.length := by omega
    rw [List.take_set, List.drop_set_of_lt (by omega), List.take_succ_eq_append_getElem hk, List.set_append_right _ _ (by rw [List.length_take]; exact Nat.min_le_left _ _)]
    simp [show min k cs.length = k from by omega, show k + 1 + r.length = k + (r.length + 1) from by omega]
theorem fill_one (z xs : List Value) (n : Nat) (hz : z.length = n) (hx : xs.length = n) : Instr.fill (fun i => some (i * n, n)) z.toArray [(0, .agg xs.toArray)] = some xs.toArray := by
  have e := fold_set xs 0 z (by omega)
  rw [List.take_zero, List.nil_append, List.drop_of_length_le (by omega), List.append_nil] at e
  simp only [Instr.fill, Value.cells, List.size_toArray, Nat.zero_mul]
  rw [if_neg (by simp; omega)]
  rw [← Array.foldl_toList, Array.toList_zipIdx]
  simpa using e
theorem owns_slice {w : World} {B n : Nat} {e : TypeId} {z : Nat} {v : Value} {xs : List Value} (h : w.ownsRow B e z v n xs) : ∃ p c, v = .slice p n c := by
  rcases h.2 with ⟨rfl, rfl⟩ | ⟨g, cap, cur, rfl, _⟩
  · exact ⟨none, 0, rfl⟩
  · exact ⟨_, cap, rfl⟩
theorem newRange {w : World} {t : TypeId} (xs : List Value) : ∀ j u, xs[j]? = some u → (w.alloc (.cells xs.toArray t)).cell? ((⟨w.heap.size, 0, none⟩ : Addr).add j) = some u := by
  intro j u hu
  rw [addr_add, Nat.zero_add]
  exact (Blk.new w t xs).cell' hu
end Go.Proofs.YtdmnddikcpfmfaaGreat

namespace Go.Proofs.YtdmnddikcpfmfaaGreat
open Go.RowKit
def z256 : List Nat := List.replicate 256 0
theorem z256_length : z256.length = 256 := List.length_replicate
/-- A sector's bytes, or those of a write. -/
def Is (d : List Nat) : Prop := d.length = 256 ∧ ∀ y ∈ d, y < 256
theorem is_z256 : Is z256 := ⟨z256_length, fun y hy => by rw [List.eq_of_mem_replicate hy]; omega⟩
/-- A sector as cells. -/
def secV (x : List Nat × Bool) : List Value := vals x.1 ++ [.bool x.2]
def flatS (l : List (List Nat × Bool)) : List Value := (l.map secV).flatten
/-- A write as cells. -/
def wrV (x : Nat × List Nat) : List Value := .int .i64 (x.1 : Int) :: vals x.2
def flatW (l : List (Nat × List Nat)) : List Value := (l.map wrV).flatten
theorem secV_length {x : List Nat × Bool} (h : x.1.length = 256) : (secV x).length = 257 := by simp [secV, vals_length, h]
theorem wrV_length {x : Nat × List Nat} (h : x.2.length = 256) : (wrV x).length = 257 := by simp [wrV, vals_length, h]
theorem secV_one (x : List Nat × Bool) : ∀ v ∈ secV x, v.oneCell' = true := by
  intro v hv
  rcases List.mem_append.1 hv with h | h
  · exact vals_one _ v h
  · rw [List.mem_singleton.1 h]; rfl
theorem wrV_one (x : Nat × List Nat) : ∀ v ∈ wrV x, v.oneCell' = true := by
  intro v hv
  rcases List.mem_cons.1 hv with h | h
  · rw [h]; rfl
  · exact vals_one _ v h
theorem flat_length {α : Type} (f : α → List Value) (n : Nat) : ∀ (l : List α), (∀ x ∈ l, (f x).length = n) → (l.map f).flatten.length = l.length * n
  | [], _ => by simp
  | x :: r, h => by
    have e := flat_length f n r (fun y hy => h y (List.mem_cons_of_mem _ hy))
    rw [List.map_cons, List.flatten_cons, List.length_append, e, h x (List.mem_cons_self ..), List.length_cons, Nat.add_mul, Nat.one_mul, Nat.add_comm]
theorem flat_get {α : Type} (f : α → List Value) (n : Nat) : ∀ (l : List α), (∀ x ∈ l, (f x).length = n) → ∀ (i : Nat) (x : α), l[i]? = some x → ((l.map f).flatten.drop (i * n)).take n = f x
  | [], _, i, x, h => by simp at h
  | y :: r, hl, 0, x, h => by
    have hy := hl y (List.mem_cons_self ..)
    have e : y = x := by simpa using h
    subst e
    rw [Nat.zero_mul, List.drop_zero, List.map_cons, List.flatten_cons, List.take_left' hy]
  | y :: r, hl, i + 1, x, h => by
    have hy := hl y (List.mem_cons_self ..)
    have e := flat_get f n r (fun z hz => hl z (List.mem_cons_of_mem _ hz)) i x (by simpa using h)
    rw [List.map_cons, List.flatten_cons, List.drop_append, hy, Nat.add_mul, Nat.one_mul, List.drop_of_length_le (by omega), List.nil_append, Nat.add_sub_cancel, e]
theorem flat_set {α : Type} (f : α → List Value) (n : Nat) : ∀ (l : List α), (∀ x ∈ l, (f x).length = n) → ∀ (i : Nat) (y : α), i < l.length → (l.map f).flatten.take (i * n) ++ f y ++ (l.map f).flatten.drop (i * n + n) = ((l.set i y).map f).flatten
  | [], _, i, y, h => by simp at h
  | x :: r, hl, 0, y, h => by
    have hx := hl x (List.mem_cons_self ..)
    rw [Nat.zero_mul, List.take_zero, List.nil_append, Nat.zero_add, List.map_cons, List.flatten_cons, List.drop_left' hx, List.set_cons_zero, List.map_cons, List.flatten_cons]
  | x :: r, hl, i + 1, y, h => by
    have hx := hl x (List.mem_cons_self ..)
    have e := flat_set f n r (fun z hz => hl z (List.mem_cons_of_mem _ hz)) i y (by simpa using h)
    rw [List.set_cons_succ, List.map_cons, List.flatten_cons, List.map_cons, List.flatten_cons, ← e, List.take_append, List.drop_append, hx, Nat.add_mul, Nat.one_mul, List.take_of_length_le (by omega), List.drop_of_length_le (by omega)]
    rw [List.nil_append, Nat.add_sub_cancel, show i * n + n + n - n = i * n + n from by omega, List.append_assoc, List.append_assoc, List.append_assoc]
theorem flatS_length {l : List (List Nat × Bool)} (h : ∀ x ∈ l, Is x.1) : (flatS l).length = l.length * 257 := flat_length secV 257 l (fun x hx => secV_length (h x hx).1)
theorem flatW_length {l : List (Nat × List Nat)} (h : ∀ x ∈ l, Is x.2) : (flatW l).length = l.length * 257 := flat_length wrV 257 l (fun x hx => wrV_length (h x hx).1)
theorem flatW_snoc (l : List (Nat × List Nat)) (x : Nat × List Nat) : flatW (l ++ [x]) = flatW l ++ wrV x := by simp [flatW]
theorem infoSec : (Tryz.prog.info? 102).map (fun i => (i.zero, i.size, i.bytes)) = some (some (.agg (secV (z256, false)).toArray), 257, 257) := by kernel_rfl
theorem infoWr : (Tryz.prog.info? 173).map (fun i => (i.zero, i.size, i.bytes)) = some (some (.agg (wrV (0, z256)).toArray), 257, 264) := by kernel_rfl
theorem infoD : (Tryz.prog.info? 100).map (fun i => (i.zero, i.size, i.bytes)) = some (some (.agg (vals z256).toArray), 256, 256) := by kernel_rfl
/-- What a disk is. -/
structure DS where
  secs : List (List Nat × Bool)
  on : Bool
  left : Int
  writes : Nat
  log : List (Nat × List Nat)
  cap : Nat
  sp : List Value
def ramV (sb : Nat) (lv : Value) (s : DS) : List Value := [.slice (some ⟨sb, 0, none⟩) s.secs.length s.cap, .bool s.on, .int .i64 s.left, .int .i64 (s.writes : Int), lv]
structure DiskIn (w : World) (d sb : Nat) (lv : Value) (s : DS) : Prop where
  ram : Blk w d 62 (ramV sb lv s)
  row : Blk w sb 102 (flatS s.secs ++ s.sp)
  log : w.ownsRow 0 173 257 lv s.log.length (flatW s.log)
  okS : ∀ x ∈ s.secs, Is x.1
  okL : ∀ x ∈ s.log, Is x.2
  n1 : 1 ≤ s.secs.length
  n2 : s.secs.length ≤ 8192
  ll : s.log.length = s.writes
  lw : s.writes ≤ 1024
  capn : s.secs.length ≤ s.cap
  le : -9223372036854775808 ≤ s.left ∧ s.left ≤ 9223372036854775807
/-- The blocks that a disk stands in. -/
def fpD (d sb : Nat) (lv : Value) (k : Nat) : Prop := k = d ∨ k = sb ∨ lv.ownBlock = some k
theorem blk_ne {w : World} {g k : Nat} {t u : TypeId} {cs ds : List Value} (h : Blk w g t cs) (h' : Blk w k u ds) (hne : t ≠ u) : g ≠ k := by
  rintro rfl
  rw [Blk, h'] at h
  simp at h
  exact hne h.2.symm
theorem owns_row {w : World} {B : Nat} {e : TypeId} {z : Nat} {v : Value} {n : Nat} {xs : List Value} (h : w.ownsRow B e z v n xs) {k : Nat} (hk : v.ownBlock = some k) : ∃ cs, w.heap[k]? = some (.cells cs e (0, 0)) ∧ k < w.heap.size := by
  rcases h.2 with ⟨rfl, _⟩ | ⟨g, cap, cur, rfl, _, hh, _⟩
  · simp [Value.ownBlock] at hk
  · simp [Value.ownBlock] at hk
    subst hk
    refine ⟨cur, hh, ?_⟩
    rcases Nat.lt_or_ge g w.heap.size with h' | h'
    · exact h'
    · rw [Array.getElem?_eq_none h'] at hh; simp at hh
theorem owns_ne {w : World} {B : Nat} {e : TypeId} {z : Nat} {v : Value} {n : Nat} {xs : List Value} (h : w.ownsRow B e z v n xs) {k : Nat} (hk : v.ownBlock = some k) {g : Nat} {t : TypeId} {cs : List Value} (hb : Blk w g t cs) (hne : t ≠ e) : k ≠ g := by
  rintro rfl
  obtain ⟨c, hc, _⟩ := owns_row h hk
  rw [Blk, hc] at hb
  simp at hb
  exact hne hb.2.symm
theorem owns_same {w w' : World} {B : Nat} {e : TypeId} {z : Nat} {v : Value} {n : Nat} {xs : List Value} (h : w.ownsRow B e z v n xs) (hs : ∀ k, v.ownBlock = some k → w'.heap[k]? = w.heap[k]?) : w'.ownsRow B e z v n xs := by
  refine ⟨h.1, ?_⟩
  rcases h.2 with h' | ⟨g, cap, cur, rfl, hg, hh, hr⟩
  · exact .inl h'
  · exact .inr ⟨g, cap, cur, rfl, hg, (hs g rfl).trans hh, hr⟩
theorem DiskIn.lt {w : World} {d sb : Nat} {lv : Value} {s : DS} (h : DiskIn w d sb lv s) {k : Nat} (hk : fpD d sb lv k) : k < w.heap.size := by
  rcases hk with rfl | rfl | hk
  · exact h.ram.lt
  · exact h.row.lt
  · exact (owns_row h.log hk).choose_spec.2
theorem DiskIn.same {w w' : World} {d sb : Nat} {lv : Value} {s : DS} (h : DiskIn w d sb lv s) (hs : ∀ k, fpD d sb lv k → w'.heap[k]? = w.heap[k]?) : DiskIn w' d sb lv s :=
  ⟨h.ram.same (hs d (.inl rfl)), h.row.same (hs sb (.inr (.inl rfl))), owns_same h.log (fun k hk => hs k (.inr (.inr hk))), h.okS, h.okL, h.n1, h.n2, h.ll, h.lw, h.capn, h.le⟩
theorem DiskIn.below {w w' : World} {d sb : Nat} {lv : Value} {s : DS} (h : DiskIn w d sb lv s) (hb : Below w.heap.size w w') : DiskIn w' d sb lv s := h.same fun k hk => hb.block k (h.lt hk)
theorem DiskIn.keep {w w' : World} {d sb : Nat} {lv : Value} {s : DS} {S : Nat → Prop} (h : DiskIn w d sb lv s) (hb : Keep S w w') (hd : ∀ k, fpD d sb lv k → ¬ S k) : DiskIn w' d sb lv s := h.same fun k hk => hb.block k (h.lt hk) (hd k hk)
theorem DiskIn.nds {w : World} {d sb : Nat} {lv : Value} {s : DS} (h : DiskIn w d sb lv s) : d ≠ sb := blk_ne h.ram h.row (by decide)
theorem DiskIn.ndl {w : World} {d sb : Nat} {lv : Value} {s : DS} (h : DiskIn w d sb lv s) {k : Nat} (hk : lv.ownBlock = some k) : k ≠ d ∧ k ≠ sb := ⟨owns_ne h.log hk h.ram (by decide), owns_ne h.log hk h.row (by decide)⟩
/-- The sector i of a disk, in its row. -/
theorem DiskIn.sec {w : World} {d sb : Nat} {lv : Value} {s : DS} (h : DiskIn w d sb lv s) {i : Nat} {x : List Nat × Bool} (hx : s.secs[i]? = some x) : w.rangeAt sb (i * 257) (secV x) :=
  h.row.range (i * 257) 257 _ (by
    have hi : i < s.secs.length := (List.getElem?_eq_some_iff.1 hx).1
    have hl := flatS_length h.okS
    rw [List.drop_append_of_le_length (by omega), List.take_append_of_le_length (by rw [List.length_drop]; omega)]
    exact flat_get secV 257 s.secs (fun y hy => secV_length (h.okS y hy).1) i x hx)
theorem DiskIn.hurt {w : World} {d sb : Nat} {lv : Value} {s : DS} (h : DiskIn w d sb lv s) {i : Nat} {x : List Nat × Bool} (hx : s.secs[i]? = some x) : w.cell? ⟨sb, i * 257 + 256, none⟩ = some (.bool x.2) := by
  have hl := (h.okS x (List.mem_of_getElem? hx)).1
  exact h.sec hx 256 _ (by rw [secV, List.getElem?_append_right (by rw [vals_length, hl]; exact Nat.le_refl _), vals_length, hl]; rfl)
theorem DiskIn.data {w : World} {d sb : Nat} {lv : Value} {s : DS} (h : DiskIn w d sb lv s) {i : Nat} {x : List Nat × Bool} (hx : s.secs[i]? = some x) : In w (some ⟨sb, i * 257, none⟩) 256 256 x.1 := by
  obtain ⟨hl, hb⟩ := h.okS x (List.mem_of_getElem? hx)
  exact ⟨hl, Nat.le_refl _, by unfold maxLen; omega, by omega, hb, fun _ => ⟨sb, i * 257, rfl, h.row.lt, fun j hj => h.sec hx j _ (by
    rw [secV, List.getElem?_append_left (by rw [vals_length, hl]; exact hj), vals_get _ _ (by omega)])⟩, fun h => by cases h⟩
end Go.Proofs.YtdmnddikcpfmfaaGreat
