/-
  Rows of records of the call's own; what Diff and the reference's Diff answer.
-/
import Derived.Test.YtpikaagdiafieaaMjRef4
namespace Go.Proofs.Ytpikaagdiafieaa
open Go.RowKit
def MR.cells (r : MR) : List Value := [.int .i64 r.kind, .int .i64 r.block, .int .i64 r.value]
def flatM (l : List MR) : List Value := l.flatMap MR.cells
theorem flatM_length (l : List MR) : (flatM l).length = l.length * 3 := by
  induction l with
  | nil => rfl
  | cons x l ih =>
    have e : flatM (x :: l) = x.cells ++ flatM l := rfl
    rw [e, List.length_append, ih, List.length_cons]
    simp [MR.cells]; omega
theorem flatM_append (l m : List MR) : flatM (l ++ m) = flatM l ++ flatM m := by simp [flatM]
theorem flatM_one (l : List MR) : ∀ u ∈ flatM l, u.oneCell' = true := by
  intro u hu
  obtain ⟨x, _, hx⟩ := List.mem_flatMap.1 hu
  simp [MR.cells] at hx
  rcases hx with rfl | rfl | rfl <;> rfl
theorem flatM_at {l : List MR} {k : Nat} (h : k < l.length) : (flatM l)[k * 3]? = some (.int .i64 (eR l k).kind) ∧ (flatM l)[k * 3 + 1]? = some (.int .i64 (eR l k).block) ∧ (flatM l)[k * 3 + 2]? = some (.int .i64 (eR l k).value) := by
  induction l generalizing k with
  | nil => simp at h
  | cons y l ih =>
    have e : flatM (y :: l) = .int .i64 y.kind :: .int .i64 y.block :: .int .i64 y.value :: flatM l := rfl
    cases k with
    | zero => rw [e]; simp [eR]
    | succ k =>
      have := ih (k := k) (by simpa using h)
      rw [e, show (k + 1) * 3 = k * 3 + 1 + 1 + 1 by omega]
      simpa [eR] using this
theorem in_of_ownsR {w : World} {B : Nat} {v : Value} {n : Nat} {l : List MR} (h : w.ownsRow B 65 3 v n (flatM l)) (hr : n ≤ 140737488355328) :
    ∃ p c, v = .slice p n c ∧ InR w p n c l := by
  have hl : l.length = n := by have := h.1; rw [flatM_length] at this; omega
  rcases h.2 with ⟨rfl, rfl⟩ | ⟨g, cap, cur, rfl, hg, hh, hnc, hcm, hsz, htk⟩
  · have : l = [] := List.eq_nil_of_length_eq_zero hl
    subst this
    exact ⟨none, 0, rfl, InR.empty w⟩
  · refine ⟨some ⟨g, 0, none⟩, cap, rfl, hl, hnc, hcm, hr, fun h0 => ⟨g, 0, rfl, ?_, fun i hi => ?_⟩, fun h => by simp at h⟩
    · rcases Nat.lt_or_ge g w.heap.size with h' | h'
      · exact h'
      · rw [Array.getElem?_eq_none h'] at hh; simp at hh
    · obtain ⟨f0, f1, f2⟩ := flatM_at (l := l) (k := i) (by omega)
      have k0 := World.ownsRow.cellAt h (i * 3) (by omega)
      have k1 := World.ownsRow.cellAt h (i * 3 + 1) (by omega)
      have k2 := World.ownsRow.cellAt h (i * 3 + 2) (by omega)
      rw [Nat.zero_add]
      exact ⟨k0.trans f0, k1.trans f1, k2.trans f2⟩
theorem infoR : (Try.prog.info? 65).map (fun i => (i.zero, i.size, i.bytes)) = some (some (.agg #[.int .i64 0, .int .i64 0, .int .i64 0]), 3, 24) := by kernel_rfl
/-- One record behind a row of the call's own. -/
theorem wpList_append_rec {ops : Array Oper} {rest : List Oper} {o : Oper} {a : Act} {Q : Exit → Act → World → Prop} (hgd : o.guard = none) (s x : Operand)
    (ho : o.op = .call { callee := .builtin .append, args := #[s, x], argTypes := #[34, 34] }) (B : Nat) (v : Value) (l : List MR) (r : MR) (W : World) (hs : a.eval s = v) (hown : W.ownsRow B 65 3 v l.length (flatM l))
    (hx : a.eval x = .slice (some ⟨W.heap.size, 0, none⟩) 1 1) (hlen : l.length ≤ 1000000) (hB : B ≤ W.heap.size)
    (hK : ∀ v' w', w'.ownsRow B 65 3 v' (l ++ [r]).length (flatM (l ++ [r])) → Below B W w' → wpList Try.prog ops Q rest (a.put o.dst v') w') :
    wpList Try.prog ops Q (o :: rest) a (W.alloc (.cells #[.int .i64 r.kind, .int .i64 r.block, .int .i64 r.value] 65)) := by
  obtain ⟨i0, hi, hz0, hz1, hz2⟩ := info_parts infoR
  have hal := below_alloc W (.cells #[.int .i64 r.kind, .int .i64 r.block, .int .i64 r.value] 65)
  have hown' := owns_below hown hal
  refine wpList_append_own _ hgd s x 34 ho B 65 i0 (.agg #[.int .i64 0, .int .i64 0, .int .i64 0]) 3 24 Try.underlying34 hi hz0 hz1 hz2 rfl (by decide) v l.length (flatM l) hs hown' ⟨W.heap.size, 0, none⟩ 1 1 r.cells hx rfl (fun j u hj => ?_) ?_ (by unfold maxLen; omega) (by omega) (by rw [World.size_alloc]; omega) ?_
  · rw [addr_add, Nat.zero_add]; exact (Blk.new' W 65 #[.int .i64 r.kind, .int .i64 r.block, .int .i64 r.value]).cell' hj
  · simp [MR.cells, Value.oneCell']
  · intro v1 w1 hown1 hgrow1 _
    refine hK v1 w1 ?_ ((hal.mono hB).grown hgrow1 (by rw [World.size_alloc]; omega) (fun k hk => (hown'.lt k hk).1))
    rw [List.length_append, flatM_append]
    exact hown1
/-- The records of one block. -/
def diffAt (a b : MS) (i : Nat) : List MR := (if eB b.bad i && !eB a.bad i then [⟨1, (i : Int), 0⟩] else []) ++ (if eI b.wear i > eI a.wear i then [⟨2, (i : Int), eI b.wear i⟩] else [])
def diffTo (a b : MS) (k : Nat) : List MR := (if b.seq > a.seq then [⟨3, 0, b.seq⟩] else []) ++ (List.range k).flatMap (diffAt a b)
theorem diffTo_succ (a b : MS) (k : Nat) : diffTo a b (k + 1) = diffTo a b k ++ diffAt a b k := by
  unfold diffTo
  rw [List.range_succ, List.flatMap_append, List.append_assoc]
  simp
theorem diffAt_len (a b : MS) (i : Nat) : (diffAt a b i).length ≤ 2 := by
  unfold diffAt
  rw [List.length_append]
  split <;> split <;> simp
theorem diffTo_len (a b : MS) (k : Nat) : (diffTo a b k).length ≤ 1 + 2 * k := by
  induction k with
  | zero => unfold diffTo; split <;> simp
  | succ k ih => rw [diffTo_succ, List.length_append]; have := diffAt_len a b k; omega
/-- What Diff answers. -/
def diffR (a b : MS) : List MR × Int := if okMS a && okMS b then (if coversB b a then (diffTo a b b.bad.length, 0) else ([], 1)) else ([], 60)
/-- A row of records and an error, in new memory. -/
def ResR (w : World) (r : List MR × Int) (e : Ending) (w' : World) : Prop := ∃ v, e = .returned (.tuple #[v, .int .i64 r.2]) ∧ w'.ownsRow w.heap.size 65 3 v r.1.length (flatM r.1) ∧ Below w.heap.size w w'
theorem nilR (B : Nat) (w : World) : w.ownsRow B 65 3 (.slice none 0 0) 0 (flatM []) := ⟨rfl, .inl ⟨rfl, rfl⟩⟩
theorem ne_not (x : Bool) : (x == false) = !x := by cases x <;> rfl
end Go.Proofs.Ytpikaagdiafieaa
