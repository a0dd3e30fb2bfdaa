/-
  Stores of one cell and of a whole value; structs as results.
-/
import Derived.Test.YtikigfjdddgkpaaDtBase
import Derived.Laws.ResultCell
namespace Go.Proofs.Ytikigfjdddgkpaa
open Go.RowKit
theorem run_store_blk1 {w : World} {g i : Nat} {t : TypeId} {cs : List Value} (h : Blk w g t cs) (hi : i < cs.length) (ty : TypeId) (hz : (Try.prog.info? ty).map (·.size) = some 1) (v : Value) (hv : v.oneCell' = true) (hc : v.cells = #[v]) :
    (storeVar ty ⟨g, i, none⟩ v).run Try.prog w = .ok () (w.setCell ⟨g, i, none⟩ v) := by
  have hcell := h.cell i
  rw [List.getElem?_eq_getElem hi] at hcell
  have hst := run_storeCells_cells (P := Try.prog) g i [v] 0 w (fun j hj => by simp at hj; subst hj; simp [hcell]) (fun j hj => by simp at hj; subst hj; simpa using h.frozen i) (by simpa using hv)
  cases hq : Try.prog.info? ty with
  | none => simp [hq] at hz
  | some ii =>
    have hs : 1 = ii.size := by simp [hq] at hz; omega
    simp only [storeVar, sizeOf, typeInfo, Sem.run_bind, hc]
    simp [← hs, hq, hst, World.setCells]
theorem wp_store_cell {op : Oper} {a : Act} {w : World} {K : Act → World → Prop} {Q : Exit → Act → World → Prop} (ty : TypeId) (x y : Operand) (ho : op.op = .store ty x y)
    (g i : Nat) (v : Value) (hx : a.eval x = .pointer (some ⟨g, i, none⟩)) (hy : a.eval y = v) {t : TypeId} {cs : List Value} (h : Blk w g t cs) (hi : i < cs.length)
    (hz : (Try.prog.info? ty).map (·.size) = some 1) (hv : v.oneCell' = true)
    (hK : ∀ w', Blk w' g t (cs.set i v) → Turned w w' g → K (a.put op.dst undef) w') (hc : v.cells = #[v] := by rfl) : op.wp Try.prog a w K Q := by
  have hrun := run_store_blk1 h hi ty hz v hv hc
  unfold Oper.wp execOp
  simp only [ho, hx, hy, Instr.storeAt, Instr.sureAddr, Sem.run_bind, Sem.run_pure, Result.andThen_ok, hrun]
  exact hK _ (h.set i v) (Turned.setCell _ _ _)
theorem wpList_store_cell {ops : Array Oper} {rest : List Oper} {op : Oper} {a : Act} {w : World} {Q : Exit → Act → World → Prop} (hgd : op.guard = none) (ty : TypeId) (x y : Operand) (ho : op.op = .store ty x y)
    (g i : Nat) (v : Value) (hx : a.eval x = .pointer (some ⟨g, i, none⟩)) (hy : a.eval y = v) {t : TypeId} {cs : List Value} (h : Blk w g t cs) (hi : i < cs.length)
    (hz : (Try.prog.info? ty).map (·.size) = some 1) (hv : v.oneCell' = true)
    (hK : ∀ w', Blk w' g t (cs.set i v) → Turned w w' g → wpList Try.prog ops Q rest (a.put op.dst undef) w') (hc : v.cells = #[v] := by rfl) : wpList Try.prog ops Q (op :: rest) a w :=
  wpList_plain hgd fun _ hKK => wp_store_cell ty x y ho g i v hx hy h hi hz hv (fun w' h1 h2 => hKK _ _ (hK w' h1 h2)) hc
end Go.Proofs.Ytikigfjdddgkpaa
