/-
  A map from pairs of ints to bools that a call made: what it holds, read and written.
-/
import Derived.Test.YtbimcdaplnmjdaaLyC
import Derived.Test.YtbimcdaplnmjdaaLift
import Derived.DeepKeys4
import Derived.Maps.OwnOps
import Derived.Maps.OwnSet
import Derived.Maps.Views
namespace Go.Proofs.Ytbimcdaplnmjdaa
open Go.RowKit Go.Maps
theorem row2 : (67 : TypeId) < Try.prog.types.size := of_decide_eq_true (by kernel_rfl)
theorem wide2 : (match Try.prog.underlying 67 with | some (.array _ _) | some (.struct _) => true | _ => false) = true := by rw [Try.underlying67]
theorem keyed2 : Keyed Try.prog 67 := Keyed.of_law (deep_law_laid laidOut (m := 2) (by omega) row2 (by kernel_rfl) wide2)
theorem wf_i64 {a : Int} (h0 : -100000 ≤ a) (h1 : a ≤ 100000) : (Lit.int .i64 a).wf = true := by
  simp [Lit.wf, IntKind.min, IntKind.max, IntKind.signed, IntKind.bits]
  omega
theorem key2 {a b : Int} (h0 : -100000 ≤ a) (h1 : a ≤ 100000) (h2 : -100000 ≤ b) (h3 : b ≤ 100000) : ∃ l, keyOf Try.prog 67 (.agg #[.int .i64 a, .int .i64 b]) = some l := by
  obtain ⟨m, hm⟩ : ∃ m, Try.prog.types.size = m + 1 := ⟨Try.prog.types.size - 1, by have h : (0 : Nat) < Try.prog.types.size := Nat.lt_of_le_of_lt (Nat.zero_le _) row2; omega⟩
  have hc : Try.prog.cellsOf 67 = 2 := by kernel_rfl
  have hc3 : Try.prog.cellsOf 3 = 1 := by kernel_rfl
  have w1 := wf_i64 h0 h1
  have w2 := wf_i64 h2 h3
  have hk : Try.prog.keyType 67 = true := by kernel_rfl
  unfold keyOf
  rw [Try.underlying67]
  simp [hk, Value.formed, Try.underlying67, hc, hm, Program.keyLits, Try.underlying3, hc3, w1, w2, Value.cells, List.range, List.range.loop]
theorem key2_inj {a b c d : Int} {l : Lit} (h : keyOf Try.prog 67 (.agg #[.int .i64 a, .int .i64 b]) = some l) (k : keyOf Try.prog 67 (.agg #[.int .i64 c, .int .i64 d]) = some l) : (a, b) = (c, d) := by
  have := keyed2.inj h k
  simpa using this
/-- Block g is a map that has just the pairs of L. -/
def MB (w : World) (g : Nat) (L : List (Int × Int)) : Prop := ∃ D : DataW Unit, w.ownsMap Try.prog 67 (plainElem Try.prog 4) g L.length D ∧ Maps.size D = L.length ∧
  ∀ x l, keyOf Try.prog 67 (.agg #[.int .i64 x.1, .int .i64 x.2]) = some l → x ∉ L → Maps.has D l = false
theorem MB.lt {w : World} {g : Nat} {L : List (Int × Int)} (h : MB w g L) : g < w.heap.size := by obtain ⟨M, h, _⟩ := h; exact h.lt
theorem MB.made (w : World) : MB (w.alloc (.map #[] 0)) w.heap.size [] := ⟨_, World.ownsMap_made w _ _ _, rfl, fun _ _ _ _ => rfl⟩
theorem MB.same {w w' : World} {g : Nat} {L : List (Int × Int)} (h : MB w g L) (h1 : w'.heap[g]? = w.heap[g]?) : MB w' g L := by
  obtain ⟨M, ⟨es, cl, ho, h3⟩, hat⟩ := h
  exact ⟨M, ⟨es, cl, h1.trans ho, h3⟩, hat⟩
theorem MB.kept {w w' : World} {g : Nat} {L : List (Int × Int)} (h : MB w g L) (hb : Below w.heap.size w w') : MB w' g L := h.same (hb.block _ h.lt)
theorem zero4 (w : World) : (zeroValue 4).run Try.prog w = .ok (.bool false) w := by kernel_rfl
theorem MB.len {w : World} {g : Nat} {L : List (Int × Int)} (h : MB w g L) (ty : TypeId) : (Builtin.len_ #[66] ty #[.map (some g)]).run Try.prog w = .ok (.int .i64 (L.length : Int)) w := by
  obtain ⟨M, h, hm, _⟩ := h
  rw [h.len Try.underlying66 ty, hm]
theorem MB.look_no {w : World} {g : Nat} {L : List (Int × Int)} (h : MB w g L) {a b : Int} (hx : (a, b) ∉ L) (h0 : -100000 ≤ a) (h1 : a ≤ 100000) (h2 : -100000 ≤ b) (h3 : b ≤ 100000) :
    (Instr.lookup 66 (.map (some g)) (.agg #[.int .i64 a, .int .i64 b]) false).run Try.prog w = .ok (.bool false) w := by
  obtain ⟨M, h, hm, hno⟩ := h
  obtain ⟨l, hl⟩ := key2 h0 h1 h2 h3
  obtain ⟨v, ps, hr, hv⟩ := h.lookup keyed2 Try.underlying66 (zero4 w) (plainElem_bool Try.underlying4 false) hl
  rw [atKey_of_not_has (hno (a, b) l hl hx)] at hv
  have : v = .bool false := by
    unfold plainElem at hv
    rw [Try.underlying4] at hv
    cases v <;> simp at hv
    rw [hv.1]
  rw [hr, this]
theorem wpList_putT (w : World) {ops : Array Oper} {rest : List Oper} {o : Oper} {a : Act} {Q : Exit → Act → World → Prop} (hg : o.guard = none) (m x v : Operand) (hop : o.op = Op.mapUpdate 66 m x v) (g : Nat) (L : List (Int × Int))
    (hm : a.eval m = .map (some g)) (hown : MB w g L) (hn : L.length ≤ 100000) (c d : Int) (hL : (c, d) ∉ L) (h0 : -100000 ≤ c) (h1 : c ≤ 100000) (h2 : -100000 ≤ d) (h3 : d ≤ 100000) (hx : a.eval x = .agg #[.int .i64 c, .int .i64 d]) (hv : a.eval v = .bool true)
    (hK : ∀ w', MB w' g (L ++ [(c, d)]) → w.grownBy w' (some g) → wpList Try.prog ops Q rest (a.put o.dst undef) w') : wpList Try.prog ops Q (o :: rest) a w := by
  obtain ⟨M, ho, hs, hno⟩ := hown
  obtain ⟨l, hl⟩ := key2 h0 h1 h2 h3
  have ht := ho.tidy keyed2
  have hn0 := hno (c, d) l hl hL
  refine wpList_mapUpdate_own w hg m x v 66 hop 67 4 keyed2 Try.underlying66 (plainElem Try.prog 4) g L.length M hm ho (by unfold maxLen; omega) _ _ _ hx hv hl _ [] (plainElem_bool Try.underlying4 true) ?_
  intro w' r1 r2
  refine hK w' ⟨_, by rw [List.length_append]; exact r1, ?_, fun y ly hy hyL => ?_⟩ r2
  · rw [size_put ht, hn0, List.length_append, hs]; rfl
  · have hne : ly ≠ l := fun e => hyL (by
      rw [e] at hy
      have := key2_inj (a := y.1) (b := y.2) hy hl
      rw [show y = (c, d) from this]
      simp)
    rw [has_put_other hne]
    exact hno y ly hy (fun h => hyL (List.mem_append_left _ h))
end Go.Proofs.Ytbimcdaplnmjdaa
