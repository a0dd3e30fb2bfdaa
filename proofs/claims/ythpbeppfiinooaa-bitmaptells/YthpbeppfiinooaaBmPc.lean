/-
  Rows of pieces in memory.
-/
import Derived.Test.YthpbeppfiinooaaBmF
namespace Go.Proofs.Ythpbeppfiinooaa
open Go.RowKit
theorem Turned.trans {a b c : World} {g : Nat} (h : Turned a b g) (k : Turned b c g) : Turned a c g := ⟨k.os.trans h.os, k.tape.trans h.tape, k.output.trans h.output, k.size.trans h.size, fun j hj => (k.block j hj).trans (h.block j hj)⟩
structure Pc where
  a : Int
  l : Int
abbrev Pc.val (x : Pc) : Value := .agg #[.int .i64 x.a, .int .i64 x.l]
def Pc.cells (x : Pc) : List Value := [.int .i64 x.a, .int .i64 x.l]
def eP (l : List Pc) (i : Nat) : Pc := l.getD i ⟨0, 0⟩
theorem eP_mem {l : List Pc} {k : Nat} (h : k < l.length) : eP l k ∈ l := by simp [eP, h]
theorem takeP_succ (l : List Pc) (k : Nat) (h : k < l.length) : l.take (k + 1) = l.take k ++ [eP l k] := by
  rw [List.take_succ_eq_append_getElem h]; simp [eP, h]
def flatP (l : List Pc) : List Value := l.flatMap Pc.cells
theorem flatP_cons (x : Pc) (l : List Pc) : flatP (x :: l) = .int .i64 x.a :: .int .i64 x.l :: flatP l := rfl
theorem flatP_length (l : List Pc) : (flatP l).length = l.length * 2 := by
  induction l with
  | nil => rfl
  | cons x l ih => rw [flatP_cons]; simp only [List.length_cons, ih]; omega
theorem flatP_append (l m : List Pc) : flatP (l ++ m) = flatP l ++ flatP m := by simp [flatP]
theorem flatP_one (l : List Pc) : ∀ u ∈ flatP l, u.oneCell' = true := by
  intro u hu
  obtain ⟨x, _, hx⟩ := List.mem_flatMap.1 hu
  simp only [Pc.cells, List.mem_cons, List.not_mem_nil, or_false] at hx
  rcases hx with rfl | rfl <;> rfl
theorem flatP_at {l : List Pc} {k : Nat} (h : k < l.length) : (flatP l)[k * 2]? = some (.int .i64 (eP l k).a) ∧ (flatP l)[k * 2 + 1]? = some (.int .i64 (eP l k).l) := by
  induction l generalizing k with
  | nil => simp at h
  | cons y l ih =>
    cases k with
    | zero => rw [flatP_cons]; simp [eP]
    | succ k =>
      have := ih (k := k) (by simpa using h)
      rw [flatP_cons, show (k + 1) * 2 = k * 2 + 1 + 1 by omega]
      simpa [eP] using this
/-- A slice of such things that lies in a world. -/
structure InP (w : World) (p : Option Addr) (n c : Nat) (l : List Pc) : Prop where
  len : l.length = n
  cap : n ≤ c
  max : c ≤ maxLen
  room : n ≤ 140737488355328
  at' : 0 < n → ∃ b o, p = some ⟨b, o, none⟩ ∧ b < w.heap.size ∧ ∀ i, i < n → w.cell? ⟨b, o + i * 2, none⟩ = some (.int .i64 (eP l i).a) ∧ w.cell? ⟨b, o + i * 2 + 1, none⟩ = some (.int .i64 (eP l i).l)
  nil : p = none → c = 0
theorem InP.below {w w' : World} {p : Option Addr} {n c : Nat} {l : List Pc} (h : InP w p n c l) (hb : Below w.heap.size w w') : InP w' p n c l :=
  ⟨h.len, h.cap, h.max, h.room, fun h0 => by
    obtain ⟨b, o, hp, hlt, hc⟩ := h.at' h0
    refine ⟨b, o, hp, Nat.lt_of_lt_of_le hlt hb.size, fun i hi => ?_⟩
    obtain ⟨h0, h1⟩ := hc i hi
    exact ⟨(hb.cell (p := ⟨b, o + i * 2, none⟩) hlt).trans h0, (hb.cell (p := ⟨b, o + i * 2 + 1, none⟩) hlt).trans h1⟩, h.nil⟩
theorem InP.empty (w : World) : InP w none 0 0 [] := ⟨rfl, Nat.le_refl _, Nat.zero_le _, Nat.zero_le _, fun h => by omega, fun _ => rfl⟩
theorem InP.flat {w : World} {p : Option Addr} {n c : Nat} {l : List Pc} (h : InP w p n c l) {a : Addr} (ha : p = some a) : ∀ j u, (flatP l)[j]? = some u → w.cell? (a.add j) = some u := by
  intro j u hu
  have hj : j < l.length * 2 := by
    rcases Nat.lt_or_ge j (l.length * 2) with h' | h'
    · exact h'
    · rw [List.getElem?_eq_none (by rw [flatP_length]; exact h')] at hu; simp at hu
  have hl := h.len
  obtain ⟨b, o, hp, _, hc⟩ := h.at' (by omega)
  rw [ha] at hp
  cases hp
  obtain ⟨i, r, hir, hr⟩ : ∃ i r, j = i * 2 + r ∧ r < 2 := ⟨j / 2, j % 2, by omega, by omega⟩
  subst hir
  rw [addr_add, ← Nat.add_assoc]
  obtain ⟨h0, h1⟩ := hc i (by omega)
  obtain ⟨f0, f1⟩ := flatP_at (l := l) (k := i) (by omega)
  match r, hr with
  | 0, _ => rw [Nat.add_zero, f0] at hu; rw [← hu]; exact h0
  | 1, _ => rw [f1] at hu; rw [← hu]; exact h1
theorem in_of_ownsP {w : World} {B : Nat} {v : Value} {n : Nat} {l : List Pc} (h : w.ownsRow B 41 2 v n (flatP l)) (hr : n ≤ 140737488355328) :
    ∃ p c, v = .slice p n c ∧ InP w p n c l := by
  have hl : l.length = n := by have := h.1; rw [flatP_length] at this; omega
  rcases h.2 with ⟨rfl, rfl⟩ | ⟨g, cap, cur, rfl, hg, hh, hnc, hcm, hsz, htk⟩
  · have : l = [] := List.eq_nil_of_length_eq_zero hl
    subst this
    exact ⟨none, 0, rfl, InP.empty w⟩
  · refine ⟨some ⟨g, 0, none⟩, cap, rfl, hl, hnc, hcm, hr, fun h0 => ⟨g, 0, rfl, ?_, fun i hi => ?_⟩, fun h => by simp at h⟩
    · rcases Nat.lt_or_ge g w.heap.size with h' | h'
      · exact h'
      · rw [Array.getElem?_eq_none h'] at hh; simp at hh
    · rw [Nat.zero_add]
      obtain ⟨f0, f1⟩ := flatP_at (l := l) (k := i) (by omega)
      exact ⟨(World.ownsRow.cellAt h (i * 2) (by omega)).trans f0, (World.ownsRow.cellAt h (i * 2 + 1) (by omega)).trans f1⟩
theorem infoP : (Try.prog.info? 41).map (fun i => (i.zero, i.size, i.bytes)) = some (some (.agg #[.int .i64 0, .int .i64 0]), 2, 16) := by kernel_rfl
theorem sizeP : (Try.prog.info? 41).map (·.size) = some 2 := by kernel_rfl
theorem flatP_set {l : List Pc} {k : Nat} (r : Pc) (h : k < l.length) : ((flatP l).set (k * 2) (.int .i64 r.a)).set (k * 2 + 1) (.int .i64 r.l) = flatP (l.set k r) := by
  induction l generalizing k with
  | nil => simp at h
  | cons y l ih =>
    cases k with
    | zero =>
      show _ = flatP (r :: l)
      rw [flatP_cons, flatP_cons]; simp
    | succ k =>
      rw [flatP_cons, List.set_cons_succ, flatP_cons, ← ih (by simpa using h), show (k + 1) * 2 = k * 2 + 1 + 1 by omega]
      simp
theorem run_storeP {w : World} {B g n c k : Nat} {l : List Pc} (h : w.ownsRow B 41 2 (.slice (some ⟨g, 0, none⟩) n c) n (flatP l)) (hk : k < n) (r : Pc) :
    ∃ w', (storeVar 41 ⟨g, k * 2, none⟩ r.val).run Try.prog w = .ok () w' ∧ w'.ownsRow B 41 2 (.slice (some ⟨g, 0, none⟩) n c) n (flatP (l.set k r)) ∧ Turned w w' g := by
  have hl : l.length = n := by have := h.1; rw [flatP_length] at this; omega
  obtain ⟨f0, f1⟩ := flatP_at (l := l) (k := k) (by omega)
  have c0 := (h.cellAt (k * 2) (by omega)).trans f0
  have c1 := (h.cellAt (k * 2 + 1) (by omega)).trans f1
  have hst := run_storeCells_cells (P := Try.prog) g (k * 2) [.int .i64 r.a, .int .i64 r.l] 0 w (fun j hj => by
      match j, hj with
      | 0, _ => simp [c0]
      | 1, _ => simp [c1]) (fun j _ => by simpa using h.frozenAt (k * 2 + (0 + j))) (by simp [Value.oneCell'])
  have hs := ((h.stored (k * 2) (.int .i64 r.a)).1.stored (k * 2 + 1) (.int .i64 r.l)).1
  rw [flatP_set r (by omega)] at hs
  refine ⟨_, ?_, hs, ((Turned.setCell w ⟨g, k * 2, none⟩ _).trans (Turned.setCell _ ⟨g, k * 2 + 1, none⟩ _))⟩
  cases hq : Try.prog.info? 41 with
  | none => have := sizeP; simp [hq] at this
  | some i =>
    have hsz : i.size = 2 := by have := sizeP; simpa [hq] using this
    simp only [storeVar, sizeOf, typeInfo, Sem.run_bind, Value.cells]
    simp [hsz, hq, hst, World.setCells]
theorem wp_storeP {op : Oper} {a : Act} {w : World} {K : Act → World → Prop} {Q : Exit → Act → World → Prop} (x y : Operand) (ho : op.op = .store 41 x y) (g k : Nat) (r : Pc) (hx : a.eval x = .pointer (some ⟨g, k * 2, none⟩)) (hy : a.eval y = r.val)
    {B n c : Nat} {l : List Pc} (h : w.ownsRow B 41 2 (.slice (some ⟨g, 0, none⟩) n c) n (flatP l)) (hk : k < n)
    (hK : ∀ w', w'.ownsRow B 41 2 (.slice (some ⟨g, 0, none⟩) n c) n (flatP (l.set k r)) → Turned w w' g → K (a.put op.dst undef) w') : op.wp Try.prog a w K Q := by
  obtain ⟨w', hrun, hown, ht⟩ := run_storeP h hk r
  unfold Oper.wp execOp
  simp only [ho, hx, hy, Instr.storeAt, Instr.sureAddr, Sem.run_bind, Sem.run_pure, Result.andThen_ok, hrun]
  exact hK _ hown ht
def toPc (x : Pie) : Pc := ⟨(x.a : Int), (x.l : Int)⟩
def pcs (l : List Pie) : List Pc := l.map toPc
theorem pcs_length (l : List Pie) : (pcs l).length = l.length := by simp [pcs]
theorem pcs_snoc (l : List Pie) (x : Pie) : pcs (l ++ [x]) = pcs l ++ [toPc x] := by simp [pcs]
theorem pcs_at {l : List Pie} {k : Nat} (h : k < l.length) : eP (pcs l) k = toPc l[k] := by simp [pcs, eP, h]
theorem toPc_mk {a l : Nat} (h : a + l ≤ 2048) : toPc (mkP a l) = ⟨(a : Int), (l : Int)⟩ := by unfold toPc; rw [mkP_a h, mkP_l h]
theorem flatP_snoc (l : List Pc) (r : Pc) : flatP l ++ [.int .i64 r.a, .int .i64 r.l] = flatP (l ++ [r]) := by rw [flatP_append]; simp [flatP, Pc.cells]
theorem owns_newP {w : World} {B : Nat} {e : TypeId} {z : Nat} {p : Option Addr} {m n c : Nat} {xs : List Value} (h : w.ownsRow B e z (.slice p m c) n xs) : ∀ a, p = some a → B ≤ a.block := by
  rcases h.2 with ⟨h1, _⟩ | ⟨g, cap, cur, h1, hg, _⟩
  · cases h1; intro a ha; cases ha
  · cases h1; intro a ha; cases ha; exact hg
theorem new_two (W : World) (x y : Value) : ∀ j u, [x, y][j]? = some u → (W.alloc (.cells #[x, y] 41)).cell? ((⟨W.heap.size, 0, none⟩ : Addr).add j) = some u := by
  intro j u hu
  rw [addr_add, Nat.zero_add]
  exact (Blk.new' W 41 #[x, y]).cell' hu
end Go.Proofs.Ythpbeppfiinooaa
