/-
  What the law's pages answers: the places and the pages that an iterator goes through.
-/
import Derived.Test.YthafcnilhloldaaNDoes
namespace Go.Proofs.Ythafcnilhloldaa
open Go.RowKit Go.Shelf
attribute [local go_sem] Oper.semAt_some
theorem func_nil (w : World) (f : Fn) (a b : Array Value) : (binOp .eql 62 (.func f a b) .nilFunc).run Try.prog w = .ok (.bool false) w := by
  have h : ∀ d : Nat, (Op.equalIn (d + 1) 62 (.func f a b) .nilFunc).run Try.prog w = .ok false w := fun d => by
    simp [Op.equalIn]
  simp only [binOp]
  simp [Op.equal, Op.maxDepth, h 9999]
theorem infoInt : (Try.prog.info? 3).map (fun i => (i.zero, i.size, i.bytes)) = some (some (.int .i64 0), 1, 8) := by kernel_rfl
/-- The places. -/
def intsOf (pre : List (Nat × PageT)) : List Value := pre.map fun x => .int .i64 (x.1 : Int)
theorem intsOf_snoc (pre : List (Nat × PageT)) (x : Nat × PageT) : intsOf (pre ++ [x]) = intsOf pre ++ [.int .i64 (x.1 : Int)] := by simp [intsOf]
theorem not_row_gen {W : World} {e e' : TypeId} (hte : e' ≠ e) {N z k : Nat} {v : Value} {xs : List Value} (hr : W.ownsRow N e z v k xs) {N' z' k' : Nat} {v' : Value} {xs' : List Value} (hr' : W.ownsRow N' e' z' v' k' xs') : v'.ownBlock = none ∨ v'.ownBlock ≠ v.ownBlock := by
  rcases hr'.2 with ⟨rfl, _⟩ | ⟨g', cap', cur', rfl, _, hg', _⟩
  · exact .inl rfl
  · right
    rcases hr.2 with ⟨rfl, _⟩ | ⟨g, cap, cur, rfl, _, hg, _⟩
    · simp [Value.ownBlock]
    · intro e1
      simp only [Value.ownBlock, Option.some.injEq] at e1
      subst e1
      rw [hg'] at hg
      simp at hg
      exact hte hg.2
/-- One more element in a row whose variable lies in a box: what stands in memory behind it. -/
structure Put1 (W w1 : World) (N B : Nat) (t e : TypeId) (z : Nat) (va v1 : Value) (L : Nat) (zs : List Value) : Prop where
  box1 : Boxed w1 B t va
  box : Boxed (w1.setCell ⟨B, 0, none⟩ v1) B t v1
  row : (w1.setCell ⟨B, 0, none⟩ v1).ownsRow N e z v1 L zs
  below : Below N W (w1.setCell ⟨B, 0, none⟩ v1)
  keeps : KeepsOthers W (w1.setCell ⟨B, 0, none⟩ v1)
  other1 : ∀ g, g < W.heap.size → some g ≠ va.ownBlock → w1.heap[g]? = W.heap[g]?
  other : ∀ g, g < W.heap.size → g ≠ B → some g ≠ va.ownBlock → (w1.setCell ⟨B, 0, none⟩ v1).heap[g]? = W.heap[g]?
theorem put1 {W w1 : World} {N B : Nat} {t e : TypeId} {z : Nat} {va v1 : Value} {k L : Nat} {ys zs : List Value} {o : Obj} (hte : t ≠ e) (hva : Boxed W B t va) (hrow : W.ownsRow N e z va k ys) (hN : N ≤ B) (hg : (W.alloc o).grownBy w1 va.ownBlock) (hown : w1.ownsRow N e z v1 L zs) : Put1 W w1 N B t e z va v1 L zs := by
  have hw : W.heap.size ≤ w1.heap.size := Nat.le_trans (by simp) hg.size
  have h1 : Boxed w1 B t va := (hva.alloc o).kept hg (hva.not_row hte hrow)
  have hne := h1.not_row hte hown
  have ho1 : ∀ g, g < W.heap.size → some g ≠ va.ownBlock → w1.heap[g]? = W.heap[g]? := fun g hlt hb => (hg.block g (by simp; omega) hb).trans (Below.heap_alloc _ _ _ hlt)
  refine ⟨h1, h1.set _, ownsRow_same hown (fun k hk => heap_setCell_other _ _ _ _ (fun e => hne (by rw [hk, e]))), ?_, ?_, ho1, fun g hlt hB hb => (heap_setCell_other _ _ _ _ hB).trans (ho1 g hlt hb)⟩
  · exact (((Below.refl N W).alloc (Nat.le_trans hN (Nat.le_of_lt hva.lt)) o).grown hg (by simp; have := hva.lt; omega) (fun k hk => (hrow.lt k hk).1)).setCell hN _
  · refine (KeepsOthers.alloc W o).trans ((KeepsOthers.of_grownBy hg (fun j o' hj ho => ?_)).trans (KeepsOthers.setCell _ _ _))
    rcases hrow.2 with ⟨rfl, _⟩ | ⟨g, cap, cur, rfl, _, hh, _⟩
    · simp [Value.ownBlock] at hj
    · simp only [Value.ownBlock, Option.some.injEq] at hj
      subst hj
      rw [(Below.heap_alloc _ _ _ (Array.getElem?_eq_some_iff.1 hh).1), hh] at ho
      cases ho
      rfl
theorem wpListIn_buildPage {F : Fence} {n : Nat} {ops : Array Oper} {rest : List Oper} {o : Oper} {a : Act} {w : World} {Q : Exit → Act → World → Prop} (hg : o.guard = none) (x : Operand) (ho : o.op = .buildSlice 58 1 #[(0, x)]) (xs : List Nat) (hx : a.eval x = .agg (vals xs).toArray) (hl : xs.length = 288)
    (h : wpListIn F n Try.prog ops Q rest (a.put o.dst (.slice (some ⟨w.heap.size, 0, none⟩) 1 1)) (w.alloc (.cells (vals xs).toArray 46))) : wpListIn F n Try.prog ops Q (o :: rest) a w := by
  refine wpListIn_plain hg fun K hK => ?_
  unfold Oper.wpIn
  refine ⟨?_, ?_⟩
  · simp [Oper.about, ho]
  · rw [Oper.semAt_plain F _ _ (by rw [ho]; intro c hc'; cases hc')]
    unfold execOp
    simp only [ho, Sem.run_bind, List.map_toArray, List.map_cons, List.map_nil, hx, buildPage xs hl w, Result.andThen_ok]
    exact hK _ _ h
end Go.Proofs.Ythafcnilhloldaa
