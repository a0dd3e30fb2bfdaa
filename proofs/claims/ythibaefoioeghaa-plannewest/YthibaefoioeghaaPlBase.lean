/-
  What slices of ints and bools in memory hold; blocks of memory.
-/
import Derived.Test.YthibaefoioeghaaBase
import Derived.Deep.WholeRow
import Derived.Deep.RegionHeld3
import Derived.Deep.MidRow
import Derived.Laws.ResultCell
import Derived.Deep.CutBlock
namespace Go.Proofs.Ythibaefoioeghaa
open Go.RowKit
/-- The number at place i of a list of numbers. -/
def eI (xs : List Int) (i : Nat) : Int := xs.getD i 0
/-- A slice of ints that lies in a world. -/
structure InI (w : World) (p : Option Addr) (n c : Nat) (xs : List Int) : Prop where
  len : xs.length = n
  cap : n ≤ c
  max : c ≤ maxLen
  room : n ≤ 140737488355328
  at' : 0 < n → ∃ b o, p = some ⟨b, o, none⟩ ∧ b < w.heap.size ∧ ∀ i, i < n → w.cell? ⟨b, o + i, none⟩ = some (.int .i64 (eI xs i))
  nil : p = none → c = 0
theorem InI.below {w w' p n c xs} (h : InI w p n c xs) (hb : Below w.heap.size w w') : InI w' p n c xs :=
  ⟨h.len, h.cap, h.max, h.room, fun h0 => by
    obtain ⟨b, o, hp, hlt, hc⟩ := h.at' h0
    exact ⟨b, o, hp, Nat.lt_of_lt_of_le hlt hb.size, fun i hi => (hb.cell (p := ⟨b, o + i, none⟩) hlt).trans (hc i hi)⟩, h.nil⟩
theorem InI.empty (w : World) : InI w none 0 0 [] := ⟨rfl, Nat.le_refl _, Nat.zero_le _, Nat.zero_le _, fun h => by omega, fun _ => rfl⟩
theorem bt {a b c : World} (h : Below a.heap.size a b) (h' : Below b.heap.size b c) : Below a.heap.size a c := h.trans (h'.mono h.size)
theorem below_alloc (w : World) (o : Obj) : Below w.heap.size w (w.alloc o) := (Below.refl _ _).alloc (Nat.le_refl _) o
theorem addr_add (b o j : Nat) : (⟨b, o, none⟩ : Addr).add j = ⟨b, o + j, none⟩ := by unfold Addr.add; split <;> simp_all
/-- Numbers as cells. -/
def valsI (xs : List Int) : List Value := xs.map fun x : Int => Value.int .i64 x
theorem valsI_length (xs : List Int) : (valsI xs).length = xs.length := by simp [valsI]
theorem valsI_append (a b : List Int) : valsI (a ++ b) = valsI a ++ valsI b := by simp [valsI]
theorem valsI_one (xs : List Int) : ∀ u ∈ valsI xs, u.oneCell' = true := by
  intro u hu
  obtain ⟨x, _, rfl⟩ := List.mem_map.1 hu
  rfl
theorem valsI_get (xs : List Int) (j : Nat) (h : j < xs.length) : (valsI xs)[j]? = some (.int .i64 (eI xs j)) := by
  simp [valsI, eI, h]
theorem valsI_get_inv {xs : List Int} {j : Nat} {u : Value} (h : (valsI xs)[j]? = some u) : j < xs.length ∧ u = .int .i64 (eI xs j) := by
  have hj : j < xs.length := by
    rcases Nat.lt_or_ge j xs.length with h' | h'
    · exact h'
    · rw [List.getElem?_eq_none (by rw [valsI_length]; exact h')] at h; simp at h
  rw [valsI_get xs j hj] at h
  exact ⟨hj, (Option.some.inj h).symm⟩
theorem valsI_set (xs : List Int) (i : Nat) (x : Int) : (valsI xs).set i (.int .i64 x) = valsI (xs.set i x) := by simp [valsI, List.map_set]
theorem InI.cells {w : World} {p : Option Addr} {n c : Nat} {xs : List Int} (h : InI w p n c xs) {a : Addr} (ha : p = some a) :
    ∀ j u, (valsI xs)[j]? = some u → w.cell? (a.add j) = some u := by
  intro j u hu
  obtain ⟨hj, rfl⟩ := valsI_get_inv hu
  have hl := h.len
  obtain ⟨b, o, hp, _, hc⟩ := h.at' (by omega)
  rw [ha] at hp
  cases hp
  rw [addr_add]
  exact hc j (by omega)
theorem in_of_ownsI {w : World} {B : Nat} {e : TypeId} {v : Value} {n : Nat} {xs : List Int} (h : w.ownsRow B e 1 v n (valsI xs)) (hr : n ≤ 140737488355328) :
    ∃ p c, v = .slice p n c ∧ InI w p n c xs := by
  have hl : xs.length = n := by have := h.1; simpa [valsI] using this
  rcases h.2 with ⟨rfl, rfl⟩ | ⟨g, cap, cur, rfl, hg, hh, hnc, hcm, hsz, htk⟩
  · have : xs = [] := List.eq_nil_of_length_eq_zero hl
    subst this
    exact ⟨none, 0, rfl, InI.empty w⟩
  · refine ⟨some ⟨g, 0, none⟩, cap, rfl, hl, hnc, hcm, hr, fun h0 => ⟨g, 0, rfl, ?_, fun i hi => ?_⟩, fun h => by simp at h⟩
    · rcases Nat.lt_or_ge g w.heap.size with h' | h'
      · exact h'
      · rw [Array.getElem?_eq_none h'] at hh; simp at hh
    · have := World.ownsRow.cellAt h i (by omega)
      rw [Nat.zero_add, this, valsI_get xs i (by omega)]
theorem owns_below {w w' : World} {B : Nat} {e : TypeId} {s : Nat} {v : Value} {n : Nat} {xs : List Value} (h : w.ownsRow B e s v n xs) (hb : Below w.heap.size w w') : w'.ownsRow B e s v n xs := by
  refine ⟨h.1, ?_⟩
  rcases h.2 with h' | ⟨g, cap, cur, rfl, hg, hh, hr⟩
  · exact .inl h'
  · refine .inr ⟨g, cap, cur, rfl, hg, ?_, hr⟩
    have hlt : g < w.heap.size := by
      rcases Nat.lt_or_ge g w.heap.size with h' | h'
      · exact h'
      · rw [Array.getElem?_eq_none h'] at hh; simp at hh
    rw [hb.block g hlt]; exact hh
theorem below_grown0 {w w1 : World} (h : w.grownBy w1 none) : Below w.heap.size w w1 := (Below.refl _ _).grown h (Nat.le_refl _) (fun _ h => by cases h)
theorem takeI_succ (xs : List Int) (k : Nat) (h : k < xs.length) : xs.take (k + 1) = xs.take k ++ [eI xs k] := by
  rw [List.take_succ_eq_append_getElem h]; simp [eI, h]
theorem eI_mem {xs : List Int} {k : Nat} (h : k < xs.length) : eI xs k ∈ xs := by
  simp [eI, h]
theorem eI_all {xs : List Int} {f : Int → Bool} : xs.all f = true ↔ ∀ j, j < xs.length → f (eI xs j) = true := by
  rw [List.all_eq_true]
  constructor
  · intro h j hj; exact h _ (eI_mem hj)
  · intro h x hx
    obtain ⟨i, hi, rfl⟩ := List.mem_iff_getElem.1 hx
    have := h i hi
    simpa [eI, hi] using this
theorem all_of_not {xs : List Int} {f : Int → Bool} {k : Nat} (hk : k < xs.length) (h : f (eI xs k) = false) : xs.all f = false := by
  cases hq : xs.all f with
  | false => rfl
  | true => rw [eI_all.1 hq k hk] at h; cases h
/-- Block g of the world holds just these cells, of that type; none is frozen. -/
def Blk (w : World) (g : Nat) (t : TypeId) (cs : List Value) : Prop := w.heap[g]? = some (.cells cs.toArray t (0, 0))
theorem Blk.lt {w : World} {g : Nat} {t : TypeId} {cs : List Value} (h : Blk w g t cs) : g < w.heap.size := by
  rcases Nat.lt_or_ge g w.heap.size with h' | h'
  · exact h'
  · rw [Blk, Array.getElem?_eq_none h'] at h; simp at h
theorem Blk.cell {w : World} {g : Nat} {t : TypeId} {cs : List Value} (h : Blk w g t cs) (i : Nat) : w.cell? ⟨g, i, none⟩ = cs[i]? := by
  rw [cell_of_row w g i _ t _ h]; simp
theorem Blk.cell' {w : World} {g : Nat} {t : TypeId} {cs : List Value} (h : Blk w g t cs) {i : Nat} {v : Value} (hv : cs[i]? = some v) : w.cell? ⟨g, i, none⟩ = some v := (h.cell i).trans hv
theorem Blk.frozen {w : World} {g : Nat} {t : TypeId} {cs : List Value} (h : Blk w g t cs) (i : Nat) : w.frozen? ⟨g, i, none⟩ = false := frozen_of_row w g i _ t h
theorem Blk.new (w : World) (t : TypeId) (cs : List Value) : Blk (w.alloc (.cells cs.toArray t)) w.heap.size t cs := heap_alloc_new w _
theorem Blk.new' (w : World) (t : TypeId) (cs : Array Value) : Blk (w.alloc (.cells cs t)) w.heap.size t cs.toList := heap_alloc_new w _
theorem Blk.alloc {w : World} {g : Nat} {t : TypeId} {cs : List Value} (h : Blk w g t cs) (o : Obj) : Blk (w.alloc o) g t cs := (Below.heap_alloc w o g h.lt).trans h
theorem Blk.drew {w : World} {g : Nat} {t : TypeId} {cs : List Value} (h : Blk w g t cs) : Blk w.drew g t cs := h
theorem Blk.drewN {w : World} {g : Nat} {t : TypeId} {cs : List Value} (h : Blk w g t cs) (n : Nat) : Blk (w.drewN n) g t cs := h
theorem Blk.set {w : World} {g : Nat} {t : TypeId} {cs : List Value} (h : Blk w g t cs) (i : Nat) (v : Value) : Blk (w.setCell ⟨g, i, none⟩ v) g t (cs.set i v) := by
  have := heap_setCell_same w g i cs.toArray t v h
  rw [Blk, this]; simp
theorem Blk.setOther {w : World} {g : Nat} {t : TypeId} {cs : List Value} (h : Blk w g t cs) (a : Addr) (v : Value) (hne : g ≠ a.block) : Blk (w.setCell a v) g t cs := (heap_setCell_other w a g v hne).trans h
theorem Blk.setRow {w : World} {g : Nat} {t : TypeId} {cs : List Value} (h : Blk w g t cs) (cs' : List Value) : Blk (w.setRow g cs'.toArray) g t cs' := setRow_heap w g _ _ t _ h
theorem Blk.setRow' {w : World} {g : Nat} {t : TypeId} {cs : List Value} (h : Blk w g t cs) (cs' : Array Value) : Blk (w.setRow g cs') g t cs'.toList := setRow_heap w g _ _ t _ h
theorem Blk.rowOther {w : World} {g : Nat} {t : TypeId} {cs : List Value} (h : Blk w g t cs) (k : Nat) (cs' : Array Value) (hne : g ≠ k) : Blk (w.setRow k cs') g t cs := (setRow_other w k g cs' hne).trans h
theorem Blk.below {w w' : World} {B g : Nat} {t : TypeId} {cs : List Value} (h : Blk w g t cs) (hb : Below B w w') (hg : g < B) : Blk w' g t cs := (hb.block g hg).trans h
theorem Blk.kept {w w' : World} {g : Nat} {t : TypeId} {cs : List Value} (h : Blk w g t cs) (hb : Below w.heap.size w w') : Blk w' g t cs := h.below hb h.lt
theorem Blk.same {w w' : World} {g : Nat} {t : TypeId} {cs : List Value} (h : Blk w g t cs) (hb : w'.heap[g]? = w.heap[g]?) : Blk w' g t cs := hb.trans h
/-- A part of a block, read as one value. -/
theorem Blk.load {w : World} {g : Nat} {t : TypeId} {cs : List Value} (h : Blk w g t cs) (o n : Nat) (xs : List Value) (hx : (cs.drop o).take n = xs) (hn : xs.length = n) :
    (loadCellsFrom ⟨g, o, none⟩ 0 n #[]).run Try.prog w = .ok xs.toArray w := by
  have := run_loadCells_list (P := Try.prog) (w := w) ⟨g, o, none⟩ xs (fun j v hv => by
    rw [addr_add]
    refine h.cell' ?_
    subst hx
    have hj : j < n := by
      rcases Nat.lt_or_ge j n with h' | h'
      · exact h'
      · rw [List.getElem?_eq_none (by omega)] at hv; simp at hv
    rw [List.getElem?_take_of_lt hj, List.getElem?_drop] at hv
    exact hv)
  rw [hn] at this
  simpa [loadCells] using this
/-- A value of several cells laid into a block. -/
theorem Blk.store {w : World} {g : Nat} {t : TypeId} {cs : List Value} (h : Blk w g t cs) (o : Nat) (xs : List Value) (hx : o + xs.length ≤ cs.length) (h1 : ∀ v ∈ xs, v.oneCell' = true) :
    (storeCells ⟨g, o, none⟩ xs 0).run Try.prog w = .ok () (w.setRow g (cs.take o ++ xs ++ cs.drop (o + xs.length)).toArray) := by
  have := run_storeCells_at (P := Try.prog) g o t xs 0 cs.toArray w h (by simpa using hx) h1
  simpa using this
/-- The worlds are the same but for what block g holds. -/
structure Turned (w w' : World) (g : Nat) : Prop where
  os : w'.os = w.os
  tape : w'.tape = w.tape
  output : w'.output = w.output
  size : w'.heap.size = w.heap.size
  block : ∀ k, k ≠ g → w'.heap[k]? = w.heap[k]?
theorem Turned.setRow (w : World) (g : Nat) (cs : Array Value) : Turned w (w.setRow g cs) g :=
  ⟨rfl, rfl, rfl, by simp [World.setRow], fun k hk => setRow_other w g k cs hk⟩
theorem Turned.setCell (w : World) (a : Addr) (v : Value) : Turned w (w.setCell a v) a.block :=
  ⟨rfl, rfl, rfl, by simp [World.setCell], fun k hk => heap_setCell_other w a k v hk⟩
theorem Blk.turned {w w' : World} {g k : Nat} {t : TypeId} {cs : List Value} (h : Blk w g t cs) (ht : Turned w w' k) (hne : g ≠ k) : Blk w' g t cs := (ht.block g hne).trans h
theorem Turned.below {B : Nat} {a w w' : World} {g : Nat} (ht : Turned w w' g) (h : Below B a w) (hg : B ≤ g) : Below B a w' :=
  ⟨ht.os.trans h.os, ht.tape.trans h.tape, ht.output.trans h.output, by rw [ht.size]; exact h.size, fun k hk => (ht.block k (by omega)).trans (h.block k hk)⟩
theorem Blk.range {w : World} {g : Nat} {t : TypeId} {cs : List Value} (h : Blk w g t cs) (o n : Nat) (xs : List Value) (hx : (cs.drop o).take n = xs) : w.rangeAt g o xs := by
  intro j v hv
  refine h.cell' ?_
  subst hx
  have hj : j < n := by
    rcases Nat.lt_or_ge j n with h' | h'
    · exact h'
    · rw [List.getElem?_eq_none (by rw [List.length_take]; omega)] at hv; simp at hv
  rw [List.getElem?_take_of_lt hj, List.getElem?_drop] at hv
  exact hv
/-- A store of a whole value into a block that is known whole. -/
theorem wpList_store_blk {ops : Array Oper} {rest : List Oper} {op : Oper} {a : Act} {w : World} {Q : Exit → Act → World → Prop} (hgd : op.guard = none) (ty : TypeId) (x y : Operand) (ho : op.op = .store ty x y)
    (g o : Nat) (xs : List Value) (hx : a.eval x = .pointer (some ⟨g, o, none⟩)) (hy : a.eval y = .agg xs.toArray) {t : TypeId} {cs : List Value} (h : Blk w g t cs) (hle : o + xs.length ≤ cs.length)
    (hi : (Try.prog.info? ty).map (·.size) = some xs.length) (h1 : ∀ v ∈ xs, v.oneCell' = true)
    (hK : ∀ w', Blk w' g t (cs.take o ++ xs ++ cs.drop (o + xs.length)) → Turned w w' g → wpList Try.prog ops Q rest (a.put op.dst undef) w') : wpList Try.prog ops Q (op :: rest) a w := by
  have hst := h.store o xs hle h1
  have hrun : (storeVar ty ⟨g, o, none⟩ (.agg xs.toArray)).run Try.prog w = .ok () (w.setRow g (cs.take o ++ xs ++ cs.drop (o + xs.length)).toArray) := by
    cases hq : Try.prog.info? ty with
    | none => simp [hq] at hi
    | some i =>
      have hs : xs.length = i.size := by simp [hq] at hi; omega
      simp only [storeVar, sizeOf, typeInfo, Sem.run_bind, Value.cells]
      simp [hs, hq, hst]
  refine wpList_plain hgd fun K hKK => ?_
  unfold Oper.wp execOp
  simp only [ho, hx, hy, Instr.storeAt, Instr.sureAddr, Sem.run_bind, Sem.run_pure, Result.andThen_ok, hrun]
  exact hKK _ _ (hK _ (h.setRow _) (Turned.setRow _ _ _))
theorem whole_row {cs xs : List Value} (h : cs.length = xs.length) : cs.take 0 ++ xs ++ cs.drop (0 + xs.length) = xs := by
  rw [List.take_zero, List.nil_append, Nat.zero_add, List.drop_of_length_le (by omega), List.append_nil]
theorem wp_store_blk {op : Oper} {a : Act} {w : World} {K : Act → World → Prop} {Q : Exit → Act → World → Prop} (ty : TypeId) (x y : Operand) (ho : op.op = .store ty x y)
    (g o : Nat) (xs : List Value) (hx : a.eval x = .pointer (some ⟨g, o, none⟩)) (hy : a.eval y = .agg xs.toArray) {t : TypeId} {cs : List Value} (h : Blk w g t cs) (hle : o + xs.length ≤ cs.length)
    (hi : (Try.prog.info? ty).map (·.size) = some xs.length) (h1 : ∀ v ∈ xs, v.oneCell' = true)
    (hK : ∀ w', Blk w' g t (cs.take o ++ xs ++ cs.drop (o + xs.length)) → Turned w w' g → K (a.put op.dst undef) w') : op.wp Try.prog a w K Q := by
  have hst := h.store o xs hle h1
  have hrun : (storeVar ty ⟨g, o, none⟩ (.agg xs.toArray)).run Try.prog w = .ok () (w.setRow g (cs.take o ++ xs ++ cs.drop (o + xs.length)).toArray) := by
    cases hq : Try.prog.info? ty with
    | none => simp [hq] at hi
    | some i =>
      have hs : xs.length = i.size := by simp [hq] at hi; omega
      simp only [storeVar, sizeOf, typeInfo, Sem.run_bind, Value.cells]
      simp [hs, hq, hst]
  unfold Oper.wp execOp
  simp only [ho, hx, hy, Instr.storeAt, Instr.sureAddr, Sem.run_bind, Sem.run_pure, Result.andThen_ok, hrun]
  exact hK _ (h.setRow _) (Turned.setRow _ _ _)


theorem info3 : (Try.prog.info? 3).map (fun i => (i.zero, i.size, i.bytes)) = some (some (.int .i64 0), 1, 8) := by kernel_rfl
theorem info4 : (Try.prog.info? 4).map (fun i => (i.zero, i.size, i.bytes)) = some (some (.bool false), 1, 1) := by kernel_rfl
theorem size3 : (Try.prog.info? 3).map (·.size) = some 1 := by kernel_rfl
/-- A number laid into a row of the call's own. -/
theorem run_store_own {w : World} {B e g k n c : Nat} {xs : List Int} (h : w.ownsRow B e 1 (.slice (some ⟨g, 0, none⟩) n c) n (valsI xs)) (hk : k < n) (ty : TypeId) (hi : (Try.prog.info? ty).map (·.size) = some 1) (z : Int) :
    ∃ w', (storeVar ty ⟨g, k, none⟩ (.int .i64 z)).run Try.prog w = .ok () w' ∧ w'.ownsRow B e 1 (.slice (some ⟨g, 0, none⟩) n c) n (valsI (xs.set k z)) ∧ Turned w w' g := by
  have hl : xs.length = n := by have := h.1; simpa [valsI] using this
  have hc := h.cellAt k (by omega)
  rw [valsI_get xs k (by omega)] at hc
  have hf := h.frozenAt k
  have hst := run_storeCells_cells (P := Try.prog) g k [.int .i64 z] 0 w (fun j hj => by simp at hj; subst hj; simp [hc]) (fun j hj => by simp at hj; subst hj; simpa using hf) (by simp [Value.oneCell'])
  refine ⟨w.setCell ⟨g, k, none⟩ (.int .i64 z), ?_, ?_, Turned.setCell _ _ _⟩
  · cases hq : Try.prog.info? ty with
    | none => simp [hq] at hi
    | some i =>
      have hs : 1 = i.size := by simp [hq] at hi; omega
      simp only [storeVar, sizeOf, typeInfo, Sem.run_bind, Value.cells]
      simp [← hs, hq, hst, World.setCells]
  · have := (h.stored k (.int .i64 z)).1
    rwa [valsI_set] at this
theorem wpList_store_own {ops : Array Oper} {rest : List Oper} {op : Oper} {a : Act} {w : World} {Q : Exit → Act → World → Prop} (hgd : op.guard = none) (ty : TypeId) (x y : Operand) (ho : op.op = .store ty x y)
    (g k : Nat) (z : Int) (hx : a.eval x = .pointer (some ⟨g, k, none⟩)) (hy : a.eval y = .int .i64 z) {B e n c : Nat} {xs : List Int} (h : w.ownsRow B e 1 (.slice (some ⟨g, 0, none⟩) n c) n (valsI xs)) (hk : k < n)
    (hi : (Try.prog.info? ty).map (·.size) = some 1)
    (hK : ∀ w', w'.ownsRow B e 1 (.slice (some ⟨g, 0, none⟩) n c) n (valsI (xs.set k z)) → Turned w w' g → wpList Try.prog ops Q rest (a.put op.dst undef) w') : wpList Try.prog ops Q (op :: rest) a w := by
  obtain ⟨w', hrun, hown, ht⟩ := run_store_own h hk ty hi z
  refine wpList_plain hgd fun K hKK => ?_
  unfold Oper.wp execOp
  simp only [ho, hx, hy, Instr.storeAt, Instr.sureAddr, Sem.run_bind, Sem.run_pure, Result.andThen_ok, hrun]
  exact hKK _ _ (hK _ hown ht)
theorem wp_store_own {op : Oper} {a : Act} {w : World} {K : Act → World → Prop} {Q : Exit → Act → World → Prop} (ty : TypeId) (x y : Operand) (ho : op.op = .store ty x y)
    (g k : Nat) (z : Int) (hx : a.eval x = .pointer (some ⟨g, k, none⟩)) (hy : a.eval y = .int .i64 z) {B e n c : Nat} {xs : List Int} (h : w.ownsRow B e 1 (.slice (some ⟨g, 0, none⟩) n c) n (valsI xs)) (hk : k < n)
    (hi : (Try.prog.info? ty).map (·.size) = some 1)
    (hK : ∀ w', w'.ownsRow B e 1 (.slice (some ⟨g, 0, none⟩) n c) n (valsI (xs.set k z)) → Turned w w' g → K (a.put op.dst undef) w') : op.wp Try.prog a w K Q := by
  obtain ⟨w', hrun, hown, ht⟩ := run_store_own h hk ty hi z
  unfold Oper.wp execOp
  simp only [ho, hx, hy, Instr.storeAt, Instr.sureAddr, Sem.run_bind, Sem.run_pure, Result.andThen_ok, hrun]
  exact hK _ hown ht
/-- Where a row that is not empty lies. -/
theorem owns_at {w : World} {B e n c : Nat} {p : Option Addr} {xs : List Value} (h : w.ownsRow B e 1 (.slice p n c) n xs) (hn : 0 < n) : ∃ g, p = some ⟨g, 0, none⟩ ∧ B ≤ g ∧ g < w.heap.size := by
  rcases h.2 with ⟨_, h0⟩ | ⟨g, cap, cur, hv, hb, hg, _⟩
  · omega
  · simp only [Value.slice.injEq] at hv
    refine ⟨g, hv.1, hb, ?_⟩
    rcases Nat.lt_or_ge g w.heap.size with h' | h'
    · exact h'
    · rw [Array.getElem?_eq_none h'] at hg; simp at hg
theorem owns_mono {w : World} {A B : Nat} {e : TypeId} {s : Nat} {v : Value} {n : Nat} {xs : List Value} (h : w.ownsRow B e s v n xs) (hb : A ≤ B) : w.ownsRow A e s v n xs := by
  refine ⟨h.1, ?_⟩
  rcases h.2 with h' | ⟨g, cap, cur, rfl, hg, hr⟩
  · exact .inl h'
  · exact .inr ⟨g, cap, cur, rfl, Nat.le_trans hb hg, hr⟩
theorem owns_turned {w w' : World} {B g : Nat} {e : TypeId} {s : Nat} {p : Option Addr} {n c : Nat} {xs : List Value} (h : w.ownsRow B e s (.slice p n c) n xs) (ht : Turned w w' g) (hne : ∀ a, p = some a → a.block ≠ g) : w'.ownsRow B e s (.slice p n c) n xs := by
  refine ⟨h.1, ?_⟩
  rcases h.2 with h' | ⟨k, cap, cur, hv, hg, hh, hr⟩
  · exact .inl h'
  · refine .inr ⟨k, cap, cur, hv, hg, ?_, hr⟩
    simp only [Value.slice.injEq] at hv
    rw [ht.block k (hne _ hv.1)]; exact hh

theorem new_one (W : World) (z : Int) : ∀ j u, [Value.int .i64 z][j]? = some u → (W.alloc (.cells #[.int .i64 z] 3)).cell? ((⟨W.heap.size, 0, none⟩ : Addr).add j) = some u := by
  intro j u h
  match j, h with
  | 0, h =>
    simp at h
    subst h
    rw [addr_add]
    exact (Blk.new' W 3 #[.int .i64 z]).cell' rfl
theorem snoc_form {w : World} {B e n : Nat} {v : Value} {R : List Int} {z : Int} (h : w.ownsRow B e 1 v (n + 1) (valsI R ++ [.int .i64 z])) (hn : n + 1 ≤ 100000000) : ∃ p c, v = .slice p (n + 1) c := by
  have e1 : valsI R ++ [Value.int .i64 z] = valsI (R ++ [z]) := by rw [valsI_append]; rfl
  rw [e1] at h
  obtain ⟨p, c, h', _⟩ := in_of_ownsI h (by omega)
  exact ⟨p, c, h'⟩
theorem valsI_snoc (R : List Int) (z : Int) : valsI R ++ [Value.int .i64 z] = valsI (R ++ [z]) := by rw [valsI_append]; rfl
/-- The truth at place i of a list of truths. -/
def eB (xs : List Bool) (i : Nat) : Bool := xs.getD i false
/-- A slice of bools that lies in a world. -/
structure InB (w : World) (p : Option Addr) (n c : Nat) (xs : List Bool) : Prop where
  len : xs.length = n
  cap : n ≤ c
  max : c ≤ maxLen
  room : n ≤ 140737488355328
  at' : 0 < n → ∃ b o, p = some ⟨b, o, none⟩ ∧ b < w.heap.size ∧ ∀ i, i < n → w.cell? ⟨b, o + i, none⟩ = some (.bool (eB xs i))
  nil : p = none → c = 0
theorem InB.below {w w' p n c xs} (h : InB w p n c xs) (hb : Below w.heap.size w w') : InB w' p n c xs :=
  ⟨h.len, h.cap, h.max, h.room, fun h0 => by
    obtain ⟨b, o, hp, hlt, hc⟩ := h.at' h0
    exact ⟨b, o, hp, Nat.lt_of_lt_of_le hlt hb.size, fun i hi => (hb.cell (p := ⟨b, o + i, none⟩) hlt).trans (hc i hi)⟩, h.nil⟩
theorem InB.empty (w : World) : InB w none 0 0 [] := ⟨rfl, Nat.le_refl _, Nat.zero_le _, Nat.zero_le _, fun h => by omega, fun _ => rfl⟩
def valsB (xs : List Bool) : List Value := xs.map fun x : Bool => Value.bool x
theorem valsB_length (xs : List Bool) : (valsB xs).length = xs.length := by simp [valsB]
theorem valsB_one (xs : List Bool) : ∀ u ∈ valsB xs, u.oneCell' = true := by
  intro u hu
  obtain ⟨x, _, rfl⟩ := List.mem_map.1 hu
  rfl
theorem valsB_get (xs : List Bool) (j : Nat) (h : j < xs.length) : (valsB xs)[j]? = some (.bool (eB xs j)) := by
  simp [valsB, eB, h]
theorem InB.cells {w : World} {p : Option Addr} {n c : Nat} {xs : List Bool} (h : InB w p n c xs) {a : Addr} (ha : p = some a) :
    ∀ j u, (valsB xs)[j]? = some u → w.cell? (a.add j) = some u := by
  intro j u hu
  have hj : j < xs.length := by
    rcases Nat.lt_or_ge j xs.length with h' | h'
    · exact h'
    · rw [List.getElem?_eq_none (by rw [valsB_length]; exact h')] at hu; simp at hu
  rw [valsB_get xs j hj] at hu
  cases hu
  have hl := h.len
  obtain ⟨b, o, hp, _, hc⟩ := h.at' (by omega)
  rw [ha] at hp
  cases hp
  rw [addr_add]
  exact hc j (by omega)
theorem in_of_ownsB {w : World} {B : Nat} {e : TypeId} {v : Value} {n : Nat} {xs : List Bool} (h : w.ownsRow B e 1 v n (valsB xs)) (hr : n ≤ 140737488355328) :
    ∃ p c, v = .slice p n c ∧ InB w p n c xs := by
  have hl : xs.length = n := by have := h.1; simpa [valsB] using this
  rcases h.2 with ⟨rfl, rfl⟩ | ⟨g, cap, cur, rfl, hg, hh, hnc, hcm, hsz, htk⟩
  · have : xs = [] := List.eq_nil_of_length_eq_zero hl
    subst this
    exact ⟨none, 0, rfl, InB.empty w⟩
  · refine ⟨some ⟨g, 0, none⟩, cap, rfl, hl, hnc, hcm, hr, fun h0 => ⟨g, 0, rfl, ?_, fun i hi => ?_⟩, fun h => by simp at h⟩
    · rcases Nat.lt_or_ge g w.heap.size with h' | h'
      · exact h'
      · rw [Array.getElem?_eq_none h'] at hh; simp at hh
    · have := World.ownsRow.cellAt h i (by omega)
      rw [Nat.zero_add, this, valsB_get xs i (by omega)]
end Go.Proofs.Ythibaefoioeghaa
