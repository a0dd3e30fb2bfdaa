/-
  Rows of things that were found, and of places, in memory.
-/
import Derived.Test.YtfgelncfmopibaaSnP
import Derived.Test.YtfgelncfmopibaaPlBase
namespace Go.Proofs.Ytfgelncfmopibaa
open Go.RowKit
theorem Turned.trans {a b c : World} {g : Nat} (h : Turned a b g) (k : Turned b c g) : Turned a c g := ⟨k.os.trans h.os, k.tape.trans h.tape, k.output.trans h.output, k.size.trans h.size, fun j hj => (k.block j hj).trans (h.block j hj)⟩
theorem grown_of {w w' : World} (h : Below w.heap.size w w') : w.grownBy w' none := ⟨h.os, h.tape, h.output, h.size, fun k hk _ => h.block k hk⟩
abbrev Fd.val (x : Fd) : Value := .agg #[.int .i64 x.ph, .int .i64 x.pg, .int .i64 x.k, .int .i64 x.p, .int .i64 x.s, .int .i64 x.t]
def Fd.cells (x : Fd) : List Value := [.int .i64 x.ph, .int .i64 x.pg, .int .i64 x.k, .int .i64 x.p, .int .i64 x.s, .int .i64 x.t]
def eF (l : List Fd) (i : Nat) : Fd := l.getD i ⟨0, 0, 0, 0, 0, 0⟩
theorem eF_mem {l : List Fd} {k : Nat} (h : k < l.length) : eF l k ∈ l := by simp [eF, h]
theorem takeF_succ (l : List Fd) (k : Nat) (h : k < l.length) : l.take (k + 1) = l.take k ++ [eF l k] := by
  rw [List.take_succ_eq_append_getElem h]; simp [eF, h]
def flatF (l : List Fd) : List Value := l.flatMap Fd.cells
theorem flatF_cons (x : Fd) (l : List Fd) : flatF (x :: l) = .int .i64 x.ph :: .int .i64 x.pg :: .int .i64 x.k :: .int .i64 x.p :: .int .i64 x.s :: .int .i64 x.t :: flatF l := rfl
theorem flatF_length (l : List Fd) : (flatF l).length = l.length * 6 := by
  induction l with
  | nil => rfl
  | cons x l ih => rw [flatF_cons]; simp only [List.length_cons, ih]; omega
theorem flatF_append (l m : List Fd) : flatF (l ++ m) = flatF l ++ flatF m := by simp [flatF]
theorem flatF_one (l : List Fd) : ∀ u ∈ flatF l, u.oneCell' = true := by
  intro u hu
  obtain ⟨x, _, hx⟩ := List.mem_flatMap.1 hu
  simp only [Fd.cells, List.mem_cons, List.not_mem_nil, or_false] at hx
  rcases hx with rfl | rfl | rfl | rfl | rfl | rfl <;> rfl
theorem flatF_at {l : List Fd} {k : Nat} (h : k < l.length) : (flatF l)[k * 6]? = some (.int .i64 (eF l k).ph) ∧ (flatF l)[k * 6 + 1]? = some (.int .i64 (eF l k).pg) ∧ (flatF l)[k * 6 + 2]? = some (.int .i64 (eF l k).k) ∧ (flatF l)[k * 6 + 3]? = some (.int .i64 (eF l k).p) ∧ (flatF l)[k * 6 + 4]? = some (.int .i64 (eF l k).s) ∧ (flatF l)[k * 6 + 5]? = some (.int .i64 (eF l k).t) := by
  induction l generalizing k with
  | nil => simp at h
  | cons y l ih =>
    cases k with
    | zero => rw [flatF_cons]; simp [eF]
    | succ k =>
      have := ih (k := k) (by simpa using h)
      rw [flatF_cons, show (k + 1) * 6 = k * 6 + 1 + 1 + 1 + 1 + 1 + 1 by omega]
      simpa [eF] using this
/-- A slice of such things that lies in a world. -/
structure InF (w : World) (p : Option Addr) (n c : Nat) (l : List Fd) : Prop where
  len : l.length = n
  cap : n ≤ c
  max : c ≤ maxLen
  room : n ≤ 140737488355328
  at' : 0 < n → ∃ b o, p = some ⟨b, o, none⟩ ∧ b < w.heap.size ∧ ∀ i, i < n → w.cell? ⟨b, o + i * 6, none⟩ = some (.int .i64 (eF l i).ph) ∧ w.cell? ⟨b, o + i * 6 + 1, none⟩ = some (.int .i64 (eF l i).pg) ∧ w.cell? ⟨b, o + i * 6 + 2, none⟩ = some (.int .i64 (eF l i).k) ∧ w.cell? ⟨b, o + i * 6 + 3, none⟩ = some (.int .i64 (eF l i).p) ∧ w.cell? ⟨b, o + i * 6 + 4, none⟩ = some (.int .i64 (eF l i).s) ∧ w.cell? ⟨b, o + i * 6 + 5, none⟩ = some (.int .i64 (eF l i).t)
  nil : p = none → c = 0
theorem InF.below {w w' : World} {p : Option Addr} {n c : Nat} {l : List Fd} (h : InF w p n c l) (hb : Below w.heap.size w w') : InF w' p n c l :=
  ⟨h.len, h.cap, h.max, h.room, fun h0 => by
    obtain ⟨b, o, hp, hlt, hc⟩ := h.at' h0
    refine ⟨b, o, hp, Nat.lt_of_lt_of_le hlt hb.size, fun i hi => ?_⟩
    obtain ⟨h0, h1, h2, h3, h4, h5⟩ := hc i hi
    exact ⟨(hb.cell (p := ⟨b, o + i * 6, none⟩) hlt).trans h0, (hb.cell (p := ⟨b, o + i * 6 + 1, none⟩) hlt).trans h1, (hb.cell (p := ⟨b, o + i * 6 + 2, none⟩) hlt).trans h2, (hb.cell (p := ⟨b, o + i * 6 + 3, none⟩) hlt).trans h3, (hb.cell (p := ⟨b, o + i * 6 + 4, none⟩) hlt).trans h4, (hb.cell (p := ⟨b, o + i * 6 + 5, none⟩) hlt).trans h5⟩, h.nil⟩
theorem InF.empty (w : World) : InF w none 0 0 [] := ⟨rfl, Nat.le_refl _, Nat.zero_le _, Nat.zero_le _, fun h => by omega, fun _ => rfl⟩
theorem InF.flat {w : World} {p : Option Addr} {n c : Nat} {l : List Fd} (h : InF w p n c l) {a : Addr} (ha : p = some a) : ∀ j u, (flatF l)[j]? = some u → w.cell? (a.add j) = some u := by
  intro j u hu
  have hj : j < l.length * 6 := by
    rcases Nat.lt_or_ge j (l.length * 6) with h' | h'
    · exact h'
    · rw [List.getElem?_eq_none (by rw [flatF_length]; exact h')] at hu; simp at hu
  have hl := h.len
  obtain ⟨b, o, hp, _, hc⟩ := h.at' (by omega)
  rw [ha] at hp
  cases hp
  obtain ⟨i, r, hir, hr⟩ : ∃ i r, j = i * 6 + r ∧ r < 6 := ⟨j / 6, j % 6, by omega, by omega⟩
  subst hir
  rw [addr_add, ← Nat.add_assoc]
  obtain ⟨h0, h1, h2, h3, h4, h5⟩ := hc i (by omega)
  obtain ⟨f0, f1, f2, f3, f4, f5⟩ := flatF_at (l := l) (k := i) (by omega)
  match r, hr with
  | 0, _ => rw [Nat.add_zero, f0] at hu; rw [← hu]; exact h0
  | 1, _ => rw [f1] at hu; rw [← hu]; exact h1
  | 2, _ => rw [f2] at hu; rw [← hu]; exact h2
  | 3, _ => rw [f3] at hu; rw [← hu]; exact h3
  | 4, _ => rw [f4] at hu; rw [← hu]; exact h4
  | 5, _ => rw [f5] at hu; rw [← hu]; exact h5
theorem in_of_ownsF {w : World} {B : Nat} {v : Value} {n : Nat} {l : List Fd} (h : w.ownsRow B 33 6 v n (flatF l)) (hr : n ≤ 140737488355328) :
    ∃ p c, v = .slice p n c ∧ InF w p n c l := by
  have hl : l.length = n := by have := h.1; rw [flatF_length] at this; omega
  rcases h.2 with ⟨rfl, rfl⟩ | ⟨g, cap, cur, rfl, hg, hh, hnc, hcm, hsz, htk⟩
  · have : l = [] := List.eq_nil_of_length_eq_zero hl
    subst this
    exact ⟨none, 0, rfl, InF.empty w⟩
  · refine ⟨some ⟨g, 0, none⟩, cap, rfl, hl, hnc, hcm, hr, fun h0 => ⟨g, 0, rfl, ?_, fun i hi => ?_⟩, fun h => by simp at h⟩
    · rcases Nat.lt_or_ge g w.heap.size with h' | h'
      · exact h'
      · rw [Array.getElem?_eq_none h'] at hh; simp at hh
    · rw [Nat.zero_add]
      obtain ⟨f0, f1, f2, f3, f4, f5⟩ := flatF_at (l := l) (k := i) (by omega)
      exact ⟨(World.ownsRow.cellAt h (i * 6) (by omega)).trans f0, (World.ownsRow.cellAt h (i * 6 + 1) (by omega)).trans f1, (World.ownsRow.cellAt h (i * 6 + 2) (by omega)).trans f2, (World.ownsRow.cellAt h (i * 6 + 3) (by omega)).trans f3, (World.ownsRow.cellAt h (i * 6 + 4) (by omega)).trans f4, (World.ownsRow.cellAt h (i * 6 + 5) (by omega)).trans f5⟩
theorem infoF : (Try.prog.info? 33).map (fun i => (i.zero, i.size, i.bytes)) = some (some (.agg #[.int .i64 0, .int .i64 0, .int .i64 0, .int .i64 0, .int .i64 0, .int .i64 0]), 6, 48) := by kernel_rfl
theorem sizeF : (Try.prog.info? 33).map (·.size) = some 6 := by kernel_rfl
theorem flatF_set {l : List Fd} {k : Nat} (r : Fd) (h : k < l.length) : ((((((flatF l).set (k * 6) (.int .i64 r.ph)).set (k * 6 + 1) (.int .i64 r.pg)).set (k * 6 + 2) (.int .i64 r.k)).set (k * 6 + 3) (.int .i64 r.p)).set (k * 6 + 4) (.int .i64 r.s)).set (k * 6 + 5) (.int .i64 r.t) = flatF (l.set k r) := by
  induction l generalizing k with
  | nil => simp at h
  | cons y l ih =>
    cases k with
    | zero =>
      show _ = flatF (r :: l)
      rw [flatF_cons, flatF_cons]; simp
    | succ k =>
      rw [flatF_cons, List.set_cons_succ, flatF_cons, ← ih (by simpa using h), show (k + 1) * 6 = k * 6 + 1 + 1 + 1 + 1 + 1 + 1 by omega]
      simp
theorem run_storeF {w : World} {B g n c k : Nat} {l : List Fd} (h : w.ownsRow B 33 6 (.slice (some ⟨g, 0, none⟩) n c) n (flatF l)) (hk : k < n) (r : Fd) :
    ∃ w', (storeVar 33 ⟨g, k * 6, none⟩ r.val).run Try.prog w = .ok () w' ∧ w'.ownsRow B 33 6 (.slice (some ⟨g, 0, none⟩) n c) n (flatF (l.set k r)) ∧ Turned w w' g := by
  have hl : l.length = n := by have := h.1; rw [flatF_length] at this; omega
  obtain ⟨f0, f1, f2, f3, f4, f5⟩ := flatF_at (l := l) (k := k) (by omega)
  have c0 := (h.cellAt (k * 6) (by omega)).trans f0
  have c1 := (h.cellAt (k * 6 + 1) (by omega)).trans f1
  have c2 := (h.cellAt (k * 6 + 2) (by omega)).trans f2
  have c3 := (h.cellAt (k * 6 + 3) (by omega)).trans f3
  have c4 := (h.cellAt (k * 6 + 4) (by omega)).trans f4
  have c5 := (h.cellAt (k * 6 + 5) (by omega)).trans f5
  have hst := run_storeCells_cells (P := Try.prog) g (k * 6) [.int .i64 r.ph, .int .i64 r.pg, .int .i64 r.k, .int .i64 r.p, .int .i64 r.s, .int .i64 r.t] 0 w (fun j hj => by
      match j, hj with
      | 0, _ => simp [c0]
      | 1, _ => simp [c1]
      | 2, _ => simp [c2]
      | 3, _ => simp [c3]
      | 4, _ => simp [c4]
      | 5, _ => simp [c5]) (fun j _ => by simpa using h.frozenAt (k * 6 + (0 + j))) (by simp [Value.oneCell'])
  have hs := ((((((h.stored (k * 6) (.int .i64 r.ph)).1.stored (k * 6 + 1) (.int .i64 r.pg)).1.stored (k * 6 + 2) (.int .i64 r.k)).1.stored (k * 6 + 3) (.int .i64 r.p)).1.stored (k * 6 + 4) (.int .i64 r.s)).1.stored (k * 6 + 5) (.int .i64 r.t)).1
  rw [flatF_set r (by omega)] at hs
  refine ⟨_, ?_, hs, ((((((Turned.setCell w ⟨g, k * 6, none⟩ _).trans (Turned.setCell _ ⟨g, k * 6 + 1, none⟩ _)).trans (Turned.setCell _ ⟨g, k * 6 + 2, none⟩ _)).trans (Turned.setCell _ ⟨g, k * 6 + 3, none⟩ _)).trans (Turned.setCell _ ⟨g, k * 6 + 4, none⟩ _)).trans (Turned.setCell _ ⟨g, k * 6 + 5, none⟩ _))⟩
  cases hq : Try.prog.info? 33 with
  | none => have := sizeF; simp [hq] at this
  | some i =>
    have hsz : i.size = 6 := by have := sizeF; simpa [hq] using this
    simp only [storeVar, sizeOf, typeInfo, Sem.run_bind, Value.cells]
    simp [hsz, hq, hst, World.setCells]
theorem wp_storeF {op : Oper} {a : Act} {w : World} {K : Act → World → Prop} {Q : Exit → Act → World → Prop} (x y : Operand) (ho : op.op = .store 33 x y) (g k : Nat) (r : Fd) (hx : a.eval x = .pointer (some ⟨g, k * 6, none⟩)) (hy : a.eval y = r.val)
    {B n c : Nat} {l : List Fd} (h : w.ownsRow B 33 6 (.slice (some ⟨g, 0, none⟩) n c) n (flatF l)) (hk : k < n)
    (hK : ∀ w', w'.ownsRow B 33 6 (.slice (some ⟨g, 0, none⟩) n c) n (flatF (l.set k r)) → Turned w w' g → K (a.put op.dst undef) w') : op.wp Try.prog a w K Q := by
  obtain ⟨w', hrun, hown, ht⟩ := run_storeF h hk r
  unfold Oper.wp execOp
  simp only [ho, hx, hy, Instr.storeAt, Instr.sureAddr, Sem.run_bind, Sem.run_pure, Result.andThen_ok, hrun]
  exact hK _ hown ht
structure Pl where
  ph : Int
  pg : Int
abbrev Pl.val (x : Pl) : Value := .agg #[.int .i64 x.ph, .int .i64 x.pg]
def Pl.cells (x : Pl) : List Value := [.int .i64 x.ph, .int .i64 x.pg]
def eZ (l : List Pl) (i : Nat) : Pl := l.getD i ⟨0, 0⟩
theorem eZ_mem {l : List Pl} {k : Nat} (h : k < l.length) : eZ l k ∈ l := by simp [eZ, h]
theorem takeZ_succ (l : List Pl) (k : Nat) (h : k < l.length) : l.take (k + 1) = l.take k ++ [eZ l k] := by
  rw [List.take_succ_eq_append_getElem h]; simp [eZ, h]
def flatZ (l : List Pl) : List Value := l.flatMap Pl.cells
theorem flatZ_cons (x : Pl) (l : List Pl) : flatZ (x :: l) = .int .i64 x.ph :: .int .i64 x.pg :: flatZ l := rfl
theorem flatZ_length (l : List Pl) : (flatZ l).length = l.length * 2 := by
  induction l with
  | nil => rfl
  | cons x l ih => rw [flatZ_cons]; simp only [List.length_cons, ih]; omega
theorem flatZ_append (l m : List Pl) : flatZ (l ++ m) = flatZ l ++ flatZ m := by simp [flatZ]
theorem flatZ_one (l : List Pl) : ∀ u ∈ flatZ l, u.oneCell' = true := by
  intro u hu
  obtain ⟨x, _, hx⟩ := List.mem_flatMap.1 hu
  simp only [Pl.cells, List.mem_cons, List.not_mem_nil, or_false] at hx
  rcases hx with rfl | rfl <;> rfl
theorem flatZ_at {l : List Pl} {k : Nat} (h : k < l.length) : (flatZ l)[k * 2]? = some (.int .i64 (eZ l k).ph) ∧ (flatZ l)[k * 2 + 1]? = some (.int .i64 (eZ l k).pg) := by
  induction l generalizing k with
  | nil => simp at h
  | cons y l ih =>
    cases k with
    | zero => rw [flatZ_cons]; simp [eZ]
    | succ k =>
      have := ih (k := k) (by simpa using h)
      rw [flatZ_cons, show (k + 1) * 2 = k * 2 + 1 + 1 by omega]
      simpa [eZ] using this
/-- A slice of such things that lies in a world. -/
structure InZ (w : World) (p : Option Addr) (n c : Nat) (l : List Pl) : Prop where
  len : l.length = n
  cap : n ≤ c
  max : c ≤ maxLen
  room : n ≤ 140737488355328
  at' : 0 < n → ∃ b o, p = some ⟨b, o, none⟩ ∧ b < w.heap.size ∧ ∀ i, i < n → w.cell? ⟨b, o + i * 2, none⟩ = some (.int .i64 (eZ l i).ph) ∧ w.cell? ⟨b, o + i * 2 + 1, none⟩ = some (.int .i64 (eZ l i).pg)
  nil : p = none → c = 0
theorem InZ.below {w w' : World} {p : Option Addr} {n c : Nat} {l : List Pl} (h : InZ w p n c l) (hb : Below w.heap.size w w') : InZ w' p n c l :=
  ⟨h.len, h.cap, h.max, h.room, fun h0 => by
    obtain ⟨b, o, hp, hlt, hc⟩ := h.at' h0
    refine ⟨b, o, hp, Nat.lt_of_lt_of_le hlt hb.size, fun i hi => ?_⟩
    obtain ⟨h0, h1⟩ := hc i hi
    exact ⟨(hb.cell (p := ⟨b, o + i * 2, none⟩) hlt).trans h0, (hb.cell (p := ⟨b, o + i * 2 + 1, none⟩) hlt).trans h1⟩, h.nil⟩
theorem InZ.empty (w : World) : InZ w none 0 0 [] := ⟨rfl, Nat.le_refl _, Nat.zero_le _, Nat.zero_le _, fun h => by omega, fun _ => rfl⟩
theorem InZ.flat {w : World} {p : Option Addr} {n c : Nat} {l : List Pl} (h : InZ w p n c l) {a : Addr} (ha : p = some a) : ∀ j u, (flatZ l)[j]? = some u → w.cell? (a.add j) = some u := by
  intro j u hu
  have hj : j < l.length * 2 := by
    rcases Nat.lt_or_ge j (l.length * 2) with h' | h'
    · exact h'
    · rw [List.getElem?_eq_none (by rw [flatZ_length]; exact h')] at hu; simp at hu
  have hl := h.len
  obtain ⟨b, o, hp, _, hc⟩ := h.at' (by omega)
  rw [ha] at hp
  cases hp
  obtain ⟨i, r, hir, hr⟩ : ∃ i r, j = i * 2 + r ∧ r < 2 := ⟨j / 2, j % 2, by omega, by omega⟩
  subst hir
  rw [addr_add, ← Nat.add_assoc]
  obtain ⟨h0, h1⟩ := hc i (by omega)
  obtain ⟨f0, f1⟩ := flatZ_at (l := l) (k := i) (by omega)
  match r, hr with
  | 0, _ => rw [Nat.add_zero, f0] at hu; rw [← hu]; exact h0
  | 1, _ => rw [f1] at hu; rw [← hu]; exact h1
theorem in_of_ownsZ {w : World} {B : Nat} {v : Value} {n : Nat} {l : List Pl} (h : w.ownsRow B 29 2 v n (flatZ l)) (hr : n ≤ 140737488355328) :
    ∃ p c, v = .slice p n c ∧ InZ w p n c l := by
  have hl : l.length = n := by have := h.1; rw [flatZ_length] at this; omega
  rcases h.2 with ⟨rfl, rfl⟩ | ⟨g, cap, cur, rfl, hg, hh, hnc, hcm, hsz, htk⟩
  · have : l = [] := List.eq_nil_of_length_eq_zero hl
    subst this
    exact ⟨none, 0, rfl, InZ.empty w⟩
  · refine ⟨some ⟨g, 0, none⟩, cap, rfl, hl, hnc, hcm, hr, fun h0 => ⟨g, 0, rfl, ?_, fun i hi => ?_⟩, fun h => by simp at h⟩
    · rcases Nat.lt_or_ge g w.heap.size with h' | h'
      · exact h'
      · rw [Array.getElem?_eq_none h'] at hh; simp at hh
    · rw [Nat.zero_add]
      obtain ⟨f0, f1⟩ := flatZ_at (l := l) (k := i) (by omega)
      exact ⟨(World.ownsRow.cellAt h (i * 2) (by omega)).trans f0, (World.ownsRow.cellAt h (i * 2 + 1) (by omega)).trans f1⟩
theorem infoZ : (Try.prog.info? 29).map (fun i => (i.zero, i.size, i.bytes)) = some (some (.agg #[.int .i64 0, .int .i64 0]), 2, 16) := by kernel_rfl
theorem sizeZ : (Try.prog.info? 29).map (·.size) = some 2 := by kernel_rfl
theorem flatZ_set {l : List Pl} {k : Nat} (r : Pl) (h : k < l.length) : ((flatZ l).set (k * 2) (.int .i64 r.ph)).set (k * 2 + 1) (.int .i64 r.pg) = flatZ (l.set k r) := by
  induction l generalizing k with
  | nil => simp at h
  | cons y l ih =>
    cases k with
    | zero =>
      show _ = flatZ (r :: l)
      rw [flatZ_cons, flatZ_cons]; simp
    | succ k =>
      rw [flatZ_cons, List.set_cons_succ, flatZ_cons, ← ih (by simpa using h), show (k + 1) * 2 = k * 2 + 1 + 1 by omega]
      simp
theorem run_storeZ {w : World} {B g n c k : Nat} {l : List Pl} (h : w.ownsRow B 29 2 (.slice (some ⟨g, 0, none⟩) n c) n (flatZ l)) (hk : k < n) (r : Pl) :
    ∃ w', (storeVar 29 ⟨g, k * 2, none⟩ r.val).run Try.prog w = .ok () w' ∧ w'.ownsRow B 29 2 (.slice (some ⟨g, 0, none⟩) n c) n (flatZ (l.set k r)) ∧ Turned w w' g := by
  have hl : l.length = n := by have := h.1; rw [flatZ_length] at this; omega
  obtain ⟨f0, f1⟩ := flatZ_at (l := l) (k := k) (by omega)
  have c0 := (h.cellAt (k * 2) (by omega)).trans f0
  have c1 := (h.cellAt (k * 2 + 1) (by omega)).trans f1
  have hst := run_storeCells_cells (P := Try.prog) g (k * 2) [.int .i64 r.ph, .int .i64 r.pg] 0 w (fun j hj => by
      match j, hj with
      | 0, _ => simp [c0]
      | 1, _ => simp [c1]) (fun j _ => by simpa using h.frozenAt (k * 2 + (0 + j))) (by simp [Value.oneCell'])
  have hs := ((h.stored (k * 2) (.int .i64 r.ph)).1.stored (k * 2 + 1) (.int .i64 r.pg)).1
  rw [flatZ_set r (by omega)] at hs
  refine ⟨_, ?_, hs, ((Turned.setCell w ⟨g, k * 2, none⟩ _).trans (Turned.setCell _ ⟨g, k * 2 + 1, none⟩ _))⟩
  cases hq : Try.prog.info? 29 with
  | none => have := sizeZ; simp [hq] at this
  | some i =>
    have hsz : i.size = 2 := by have := sizeZ; simpa [hq] using this
    simp only [storeVar, sizeOf, typeInfo, Sem.run_bind, Value.cells]
    simp [hsz, hq, hst, World.setCells]
theorem wp_storeZ {op : Oper} {a : Act} {w : World} {K : Act → World → Prop} {Q : Exit → Act → World → Prop} (x y : Operand) (ho : op.op = .store 29 x y) (g k : Nat) (r : Pl) (hx : a.eval x = .pointer (some ⟨g, k * 2, none⟩)) (hy : a.eval y = r.val)
    {B n c : Nat} {l : List Pl} (h : w.ownsRow B 29 2 (.slice (some ⟨g, 0, none⟩) n c) n (flatZ l)) (hk : k < n)
    (hK : ∀ w', w'.ownsRow B 29 2 (.slice (some ⟨g, 0, none⟩) n c) n (flatZ (l.set k r)) → Turned w w' g → K (a.put op.dst undef) w') : op.wp Try.prog a w K Q := by
  obtain ⟨w', hrun, hown, ht⟩ := run_storeZ h hk r
  unfold Oper.wp execOp
  simp only [ho, hx, hy, Instr.storeAt, Instr.sureAddr, Sem.run_bind, Sem.run_pure, Result.andThen_ok, hrun]
  exact hK _ hown ht
end Go.Proofs.Ytfgelncfmopibaa
