/-
  A map from ints to ints that a call made: what it holds, read and written.
-/
import Derived.Test.YtbimcdaplnmjdaaLyC
import Derived.Maps.OwnOps
import Derived.Maps.OwnSet
import Derived.Maps.Views
namespace Go.Proofs.Ytbimcdaplnmjdaa
open Go.RowKit Go.Maps
/-- Block g is a map of at most n entries, whose numbers are f. -/
def MC (w : World) (g n : Nat) (f : Int → Int) : Prop := ∃ D : DataW Unit, w.ownsMap Try.prog 3 (plainElem Try.prog 3) g n D ∧ ∀ t, D.atKey (.int .i64 t) (.lit (.int .i64 0)) = .lit (.int .i64 (f t))
theorem MC.lt {w : World} {g n : Nat} {f : Int → Int} (h : MC w g n f) : g < w.heap.size := by obtain ⟨M, h, _⟩ := h; exact h.lt
theorem MC.obj {w : World} {g n : Nat} {f : Int → Int} (h : MC w g n f) : ∃ es cl, w.heap[g]? = some (.map es cl) := by obtain ⟨M, ⟨es, cl, h, _⟩, _⟩ := h; exact ⟨es, cl, h⟩
theorem MC.made (w : World) : MC (w.alloc (.map #[] 0)) w.heap.size 0 (fun _ => 0) := ⟨_, World.ownsMap_made w _ _ _, fun _ => rfl⟩
theorem MC.same {w w' : World} {g n : Nat} {f : Int → Int} (h : MC w g n f) (h1 : w'.heap[g]? = w.heap[g]?) : MC w' g n f := by
  obtain ⟨M, ⟨es, cl, ho, h3⟩, hat⟩ := h
  exact ⟨M, ⟨es, cl, h1.trans ho, h3⟩, hat⟩
theorem MC.kept {w w' : World} {g n : Nat} {f : Int → Int} (h : MC w g n f) (hb : Below w.heap.size w w') : MC w' g n f := h.same (hb.block _ h.lt)
theorem MC.congr {w : World} {g n : Nat} {f f' : Int → Int} (h : MC w g n f) (e : ∀ t, f t = f' t) : MC w g n f' := by
  obtain ⟨M, ho, hat⟩ := h
  exact ⟨M, ho, fun t => by rw [hat, e]⟩
theorem wf_i64 {a : Int} (h0 : -100000 ≤ a) (h1 : a ≤ 100000) : (Lit.int .i64 a).wf = true := by
  simp [Lit.wf, IntKind.min, IntKind.max, IntKind.signed, IntKind.bits]
  omega
theorem key_ok {a : Int} (h0 : -100000 ≤ a) (h1 : a ≤ 100000) : keyOf Try.prog 3 (.int .i64 a) = some (.int .i64 a) := keyOf_int_mk Try.underlying3 (wf_i64 h0 h1)
theorem zero3 (w : World) : (zeroValue 3).run Try.prog w = .ok (.int .i64 0) w := by kernel_rfl
theorem MC.look {w : World} {g n : Nat} {f : Int → Int} (h : MC w g n f) (t : Int) (h0 : -100000 ≤ t) (h1 : t ≤ 100000) : (Instr.lookup 64 (.map (some g)) (.int .i64 t) false).run Try.prog w = .ok (.int .i64 (f t)) w := by
  obtain ⟨M, ho, hat⟩ := h
  obtain ⟨c, hr, hc, _⟩ := ho.lookup_int (int_keyed Try.underlying3) Try.underlying64 Try.underlying3 (zero3 w) (key_ok h0 h1)
  rw [hat t] at hc
  have : f t = c := by simpa using hc
  rw [this]; exact hr
theorem keyLit_int (t : Int) : WideAt.IsKeyLit (.int .i64 t) := trivial
theorem wpList_putC (w : World) {ops : Array Oper} {rest : List Oper} {o : Oper} {a : Act} {Q : Exit → Act → World → Prop} (hg : o.guard = none) (m x v : Operand) (hop : o.op = Op.mapUpdate 64 m x v) (g n : Nat) (f : Int → Int)
    (hm : a.eval m = .map (some g)) (hown : MC w g n f) (hn : n ≤ 100000) (t c : Int) (h0 : -100000 ≤ t) (h1 : t ≤ 100000) (c0 : -100000 ≤ c) (c1 : c ≤ 100000) (hx : a.eval x = .int .i64 t) (hv : a.eval v = .int .i64 c)
    (hK : ∀ w', MC w' g (n + 1) (fun y => if y = t then c else f y) → w.grownBy w' (some g) → wpList Try.prog ops Q rest (a.put o.dst undef) w') : wpList Try.prog ops Q (o :: rest) a w := by
  obtain ⟨M, ho, hat⟩ := hown
  refine wpList_mapUpdate_own w hg m x v 64 hop 3 3 (int_keyed Try.underlying3) Try.underlying64 (plainElem Try.prog 3) g n M hm ho (by unfold maxLen; omega) _ _ _ hx hv (key_ok h0 h1) _ [] (plainElem_int Try.underlying3 (wf_i64 c0 c1)) ?_
  intro w' r1 r2
  refine hK w' ⟨_, r1, fun y => ?_⟩ r2
  dsimp only
  by_cases e : y = t
  · subst e
    rw [if_pos rfl, atKey_put_same ho.isMap (keyLit_int _)]
  · have hne : (Lit.int .i64 y) ≠ .int .i64 t := fun h => e (by injection h)
    rw [if_neg e, atKey_put_other hne]
    exact hat y
end Go.Proofs.Ytbimcdaplnmjdaa
