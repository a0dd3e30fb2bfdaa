/-
  Stores of one cell; tables as results.
-/
import Derived.Test.YthibaefoioeghaaPlOwn
namespace Go.Proofs.Ythibaefoioeghaa
open Go.RowKit
theorem run_store_blk1 {w : World} {g i : Nat} {t : TypeId} {cs : List Value} (h : Blk w g t cs) (hi : i < cs.length) (ty : TypeId) (hz : (Try.prog.info? ty).map (·.size) = some 1) (v : Value) (hv : v.oneCell' = true) (hc : v.cells = #[v]) :
    (storeVar ty ⟨g, i, none⟩ v).run Try.prog w = .ok () (w.setCell ⟨g, i, none⟩ v) := by
  have hcell := h.cell i
  rw [List.getElem?_eq_getElem hi] at hcell
  have hst := run_storeCells_cells (P := Try.prog) g i [v] 0 w (fun j hj => by simp at hj; subst hj; simp [hcell]) (fun j hj => by simp at hj; subst hj; simpa using h.frozen i) (by simpa using hv)
  cases hq : Try.prog.info? ty with
  | none => simp [hq] at hz
  | some ii =>
    have hs : 1 = ii.size := by simp [hq] at hz; omega
    simp only [storeVar, sizeOf, typeInfo, Sem.run_bind, hc]
    simp [← hs, hq, hst, World.setCells]
/-- One cell laid into a block that is known whole. -/
theorem wp_store_cell {op : Oper} {a : Act} {w : World} {K : Act → World → Prop} {Q : Exit → Act → World → Prop} (ty : TypeId) (x y : Operand) (ho : op.op = .store ty x y)
    (g i : Nat) (v : Value) (hx : a.eval x = .pointer (some ⟨g, i, none⟩)) (hy : a.eval y = v) {t : TypeId} {cs : List Value} (h : Blk w g t cs) (hi : i < cs.length)
    (hz : (Try.prog.info? ty).map (·.size) = some 1) (hv : v.oneCell' = true)
    (hK : ∀ w', Blk w' g t (cs.set i v) → Turned w w' g → K (a.put op.dst undef) w') (hc : v.cells = #[v] := by rfl) : op.wp Try.prog a w K Q := by
  have hrun := run_store_blk1 h hi ty hz v hv hc
  unfold Oper.wp execOp
  simp only [ho, hx, hy, Instr.storeAt, Instr.sureAddr, Sem.run_bind, Sem.run_pure, Result.andThen_ok, hrun]
  exact hK _ (h.set i v) (Turned.setCell _ _ _)
/-- One cell laid into a row of the call's own. -/
theorem wp_store_row {op : Oper} {a : Act} {w : World} {K : Act → World → Prop} {Q : Exit → Act → World → Prop} (ty : TypeId) (x y : Operand) (ho : op.op = .store ty x y)
    (g i : Nat) (v : Value) (hx : a.eval x = .pointer (some ⟨g, i, none⟩)) (hy : a.eval y = v) {B e s n c : Nat} {cs : List Value} (h : w.ownsRow B e s (.slice (some ⟨g, 0, none⟩) n c) n cs) (hi : i < n * s)
    (hz : (Try.prog.info? ty).map (·.size) = some 1) (hv : v.oneCell' = true)
    (hK : ∀ w', w'.ownsRow B e s (.slice (some ⟨g, 0, none⟩) n c) n (cs.set i v) → Turned w w' g → K (a.put op.dst undef) w') (hc : v.cells = #[v] := by rfl) : op.wp Try.prog a w K Q := by
  have hcell := h.cellAt i hi
  rw [List.getElem?_eq_getElem (by rw [h.1]; exact hi)] at hcell
  have hf := h.frozenAt i
  have hst := run_storeCells_cells (P := Try.prog) g i [v] 0 w (fun j hj => by simp at hj; subst hj; simp [hcell]) (fun j hj => by simp at hj; subst hj; simpa using hf) (by simpa using hv)
  have hrun : (storeVar ty ⟨g, i, none⟩ v).run Try.prog w = .ok () (w.setCell ⟨g, i, none⟩ v) := by
    cases hq : Try.prog.info? ty with
    | none => simp [hq] at hz
    | some ii =>
      have hs : 1 = ii.size := by simp [hq] at hz; omega
      simp only [storeVar, sizeOf, typeInfo, Sem.run_bind, hc]
      simp [← hs, hq, hst, World.setCells]
  unfold Oper.wp execOp
  simp only [ho, hx, hy, Instr.storeAt, Instr.sureAddr, Sem.run_bind, Sem.run_pure, Result.andThen_ok, hrun]
  exact hK _ (h.stored i v).1 (Turned.setCell _ _ _)
theorem far_lt {g e s n c : Nat} {w : World} {p : Option Addr} {xs : List Value} (h : w.ownsRow (g + 2) e s (.slice p n c) n xs) : ∀ a, p = some a → a.block ≠ g := by
  intro a ha
  subst ha
  have := (h.lt a.block rfl).1
  omega
theorem far_lt1 {g e s n c : Nat} {w : World} {p : Option Addr} {xs : List Value} (h : w.ownsRow (g + 2) e s (.slice p n c) n xs) : ∀ a, p = some a → a.block ≠ g + 1 := by
  intro a ha
  subst ha
  have := (h.lt a.block rfl).1
  omega
theorem ret_tab {fn : Func} {p : Tmp} (h : fn.results = #[.cell p 28]) {R : Ending → World → Prop} {a : Act} {w : World} {g : Nat} {t : TypeId} {V : TabV} {T : Tab} (hp : a.tmps.getD p undef = .pointer (some ⟨g, 0, none⟩))
    (hb : Blk w g t (tabC V T)) (hd : a.defers = []) (hR : R (.returned (.agg (tabA V T))) w) : bodyPost Try.prog fn R .ret a w :=
  bodyPost_ret (results_cell_row h _ _ g t (tabA V T) (0, 0) _ hp hb Try.underlying28 rfl (by kernel_rfl)) hd hR
theorem ret_tabE {fn : Func} {p u : Tmp} (h : fn.results = #[.cell p 28, .tmp u]) {R : Ending → World → Prop} {a : Act} {w : World} {g : Nat} {t : TypeId} {V : TabV} {T : Tab} {v : Value} (hp : a.tmps.getD p undef = .pointer (some ⟨g, 0, none⟩))
    (hb : Blk w g t (tabC V T)) (hd : a.defers = []) (hu : a.tmps.getD u undef = v) (hR : R (.returned (.tuple #[.agg (tabA V T), v])) w) : bodyPost Try.prog fn R .ret a w := by
  refine bodyPost_ret (v := .tuple #[.agg (tabA V T), v]) ?_ hd hR
  rw [results_cell_tmp h, hp, hu]
  have := run_loadVar_mid w g 0 28 (tabC V T) _ (hb.range 0 9 _ rfl) Try.underlying28 rfl (by kernel_rfl)
  simp only [asAddr, Sem.run_pure, Result.andThen_ok, this]
  rfl
theorem tabSize (V : TabV) (T : Tab) : (Try.prog.info? 28).map (·.size) = some (tabC V T).length := by show _ = some 9; kernel_rfl
theorem tabOne (V : TabV) (T : Tab) : ∀ v ∈ tabC V T, v.oneCell' = true := by simp [tabC, Value.oneCell']
end Go.Proofs.Ythibaefoioeghaa
