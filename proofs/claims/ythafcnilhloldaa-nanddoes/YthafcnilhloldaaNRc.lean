/-
  A new chip of the reference in memory.
-/
import Derived.Test.YthafcnilhloldaaNBadP
import Derived.Test.YthafcnilhloldaaNRBlank
import Derived.Test.YthafcnilhloldaaNNewB
import Derived.Maps.AppendAt
namespace Go.Proofs.Ythafcnilhloldaa
open Go.RowKit
theorem infoRBlk : (Try.prog.info? 87).map (fun i => (i.zero, i.size, i.bytes)) = some (some (.agg #[.slice none 0 0, .int .i64 0, .int .i64 0, .bool false]), 4, 48) := by kernel_rfl
theorem infoEvR : (Try.prog.info? 72).map (fun i => (i.zero, i.size, i.bytes)) = some (some (.agg #[.int .i64 0, .int .i64 0, .slice none 0 0]), 3, 40) := by kernel_rfl
/-- The cells of the reference's blocks: where the pages lie, and whether it is bad. -/
def rcOf (L : List (Value × Bool)) : List Value := L.flatMap fun x => [x.1, .int .i64 0, .int .i64 0, .bool x.2]
theorem rcOf_length (L : List (Value × Bool)) : (rcOf L).length = L.length * 4 := by
  induction L with
  | nil => rfl
  | cons b m ih =>
    show (_ ++ rcOf m).length = _
    rw [List.length_append, ih]; simp only [List.length_cons, List.length_nil]; omega
theorem rcOf_snoc (L : List (Value × Bool)) (x : Value × Bool) : rcOf L ++ [x.1, .int .i64 0, .int .i64 0, .bool x.2] = rcOf (L ++ [x]) := by simp [rcOf]
theorem rcOf_at {m : List (Value × Bool)} {i : Nat} {x : Value × Bool} (h : m[i]? = some x) : (rcOf m)[i * 4]? = some x.1 ∧ (rcOf m)[i * 4 + 1]? = some (.int .i64 0) ∧ (rcOf m)[i * 4 + 2]? = some (.int .i64 0) ∧ (rcOf m)[i * 4 + 3]? = some (.bool x.2) := by
  induction m generalizing i with
  | nil => cases h
  | cons a m ih =>
    have e : rcOf (a :: m) = [a.1, .int .i64 0, .int .i64 0, .bool a.2] ++ rcOf m := rfl
    rw [e]
    cases i with
    | zero => cases h; exact ⟨rfl, rfl, rfl, rfl⟩
    | succ i =>
      obtain ⟨h0, h1, h2, h3⟩ := ih (i := i) h
      have key : ∀ j, ([a.1, .int .i64 0, .int .i64 0, .bool a.2] ++ rcOf m)[(i + 1) * 4 + j]? = (rcOf m)[i * 4 + j]? := fun j => by
        rw [List.getElem?_append_right (by simp only [List.length_cons, List.length_nil]; omega)]
        congr 1; simp only [List.length_cons, List.length_nil]; omega
      exact ⟨(key 0).trans h0, (key 1).trans h1, (key 2).trans h2, (key 3).trans h3⟩
theorem rcOf_set {L : List Value} {m : List Bool} {i : Nat} (hl : L.length = m.length) (h : i < m.length) (b : Bool) : (rcOf (L.zip m)).set (i * 4 + 3) (.bool b) = rcOf (L.zip (m.set i b)) := by
  induction m generalizing i L with
  | nil => simp at h
  | cons a m ih =>
    cases L with
    | nil => simp at hl
    | cons v L =>
      have e : ∀ (a : Value × Bool) m, rcOf (a :: m) = [a.1, .int .i64 0, .int .i64 0, .bool a.2] ++ rcOf m := fun _ _ => rfl
      cases i with
      | zero => rw [List.set_cons_zero, List.zip_cons_cons, List.zip_cons_cons, e, e]; rfl
      | succ i =>
        rw [List.set_cons_succ, List.zip_cons_cons, List.zip_cons_cons, e, e, ← ih (by simpa using hl) (by simpa using h), List.set_append_right _ _ (by simp only [List.length_cons, List.length_nil]; omega)]
        congr 2
        simp only [List.length_cons, List.length_nil]; omega
theorem owns_objR {w : World} {B : Nat} {e : TypeId} {z : Nat} {v : Value} {n : Nat} {xs : List Value} (h : w.ownsRow B e z v n xs) {i : Nat} (hi : v.ownBlock = some i) : ∃ cs, w.heap[i]? = some (.cells cs e (0, 0)) := by
  rcases h.2 with ⟨rfl, _⟩ | ⟨g, cap, cur, rfl, _, hh, _⟩
  · cases hi
  · cases hi; exact ⟨cur, hh⟩
theorem owns_sameR {w w' : World} {B : Nat} {e : TypeId} {z : Nat} {v : Value} {n : Nat} {xs : List Value} (h : w.ownsRow B e z v n xs) (hs : ∀ i, v.ownBlock = some i → w'.heap[i]? = w.heap[i]?) : w'.ownsRow B e z v n xs := by
  refine ⟨h.1, ?_⟩
  rcases h.2 with h' | ⟨g, cap, cur, rfl, hg, hh, hr⟩
  · exact .inl h'
  · exact .inr ⟨g, cap, cur, rfl, hg, (hs g rfl).trans hh, hr⟩
theorem wp_appendRB {o : Oper} {a : Act} {w : World} {K : Act → World → Prop} {Q : Exit → Act → World → Prop} (B : Nat) (s x : Operand) (ho : o.op = .call { callee := .builtin .append, args := #[s, x], argTypes := #[83, 83] }) (v : Value) (n : Nat) (L : List (Value × Bool)) (y : Value × Bool) (hs : a.eval s = v)
    (hp : w.ownsRow B 87 4 v n (rcOf L)) (hB : B ≤ w.heap.size) (gl : Nat) (hx : a.eval x = .slice (some ⟨gl, 0, none⟩) 1 1) (hnews : Blk w gl 87 [y.1, .int .i64 0, .int .i64 0, .bool y.2]) (hy : y.1.oneCell' = true) (hlen : n ≤ 1000)
    (h : ∀ p1 c1 w', w'.ownsRow B 87 4 (.slice p1 (n + 1) c1) (n + 1) (rcOf (L ++ [y])) → w.grownBy w' v.ownBlock → K (a.put o.dst (.slice p1 (n + 1) c1)) w') : o.wp Try.prog a w K Q := by
  obtain ⟨i0, hi, hz0, hz1, hz2⟩ := info_parts infoRBlk
  obtain ⟨v', w', hr, h2, h3, _, h5⟩ := run_append_own_at (P := Try.prog) w B 83 o.type 87 i0 _ 4 48 Try.underlying83 hi hz0 hz1 hz2 rfl (by decide) v n (rcOf L) hp ⟨gl, 0, none⟩ 1 1 [y.1, .int .i64 0, .int .i64 0, .bool y.2] rfl (fun j u hj => by
      have := hnews.cell' (i := j) hj
      rw [addr_add, Nat.zero_add]; exact this) (by
      intro u hu
      simp only [List.mem_cons, List.not_mem_nil, or_false] at hu
      rcases hu with rfl | rfl | rfl | rfl
      · exact hy
      · rfl
      · rfl
      · rfl) (by unfold maxLen; omega) (by omega) hB
  obtain ⟨p1, c1, rfl⟩ := owns_slice h2
  unfold Oper.wp execOp
  simp only [ho, resolve, invoke, builtin, Sem.run_bind, Sem.run_pure, Result.andThen_ok, List.map_toArray, List.map_cons, List.map_nil, hs, hx, hr]
  exact h p1 c1 w' (by rw [← rcOf_snoc]; exact h2) h3
theorem wp_appendEvR {o : Oper} {a : Act} {w : World} {K : Act → World → Prop} {Q : Exit → Act → World → Prop} (B : Nat) (s x : Operand) (ho : o.op = .call { callee := .builtin .append, args := #[s, x], argTypes := #[25, 25] }) (v : Value) (n : Nat) (cs : List Value) (y0 y1 y2 : Value) (hs : a.eval s = v)
    (hp : w.ownsRow B 72 3 v n cs) (hB : B ≤ w.heap.size) (gl : Nat) (hx : a.eval x = .slice (some ⟨gl, 0, none⟩) 1 1) (hnews : Blk w gl 72 [y0, y1, y2]) (h0 : y0.oneCell' = true) (h1 : y1.oneCell' = true) (h2 : y2.oneCell' = true) (hlen : (n + 1) * 40 ≤ 140737488355328)
    (h : ∀ p1 c1 w', w'.ownsRow B 72 3 (.slice p1 (n + 1) c1) (n + 1) (cs ++ [y0, y1, y2]) → w.grownBy w' v.ownBlock → K (a.put o.dst (.slice p1 (n + 1) c1)) w') : o.wp Try.prog a w K Q := by
  obtain ⟨i0, hi, hz0, hz1, hz2⟩ := info_parts infoEvR
  obtain ⟨v', w', hr, k2, k3, _, _⟩ := run_append_own_at (P := Try.prog) w B 25 o.type 72 i0 _ 3 40 Try.underlying25 hi hz0 hz1 hz2 rfl (by decide) v n cs hp ⟨gl, 0, none⟩ 1 1 [y0, y1, y2] rfl (fun j u hj => by
      have := hnews.cell' (i := j) hj
      rw [addr_add, Nat.zero_add]; exact this) (by
      intro u hu
      simp only [List.mem_cons, List.not_mem_nil, or_false] at hu
      rcases hu with rfl | rfl | rfl
      · exact h0
      · exact h1
      · exact h2) (by unfold maxLen; omega) (by omega) hB
  obtain ⟨p1, c1, rfl⟩ := owns_slice k2
  unfold Oper.wp execOp
  simp only [ho, resolve, invoke, builtin, Sem.run_bind, Sem.run_pure, Result.andThen_ok, List.map_toArray, List.map_cons, List.map_nil, hs, hx, hr]
  exact h p1 c1 w' k2 k3
/-- A new chip of the reference. -/
structure RcIn (w : World) (r B nb np : Nat) (L : List Value) (m : List Bool) : Prop where
  chip : ∃ v ve, Blk w r 85 [.int .i64 (nb : Int), .int .i64 (np : Int), v, ve, .int .i64 0, .bool true] ∧ w.ownsRow B 87 4 v nb (rcOf (L.zip m))
  ll : L.length = nb
  ml : m.length = nb
  pg : ∀ v ∈ L, PagesIn w v (List.replicate np (fillP 255))
theorem owns_belowR {w w' : World} {B : Nat} {e : TypeId} {s : Nat} {v : Value} {n : Nat} {xs : List Value} (h : w.ownsRow B e s v n xs) (hb : Below w.heap.size w w') : w'.ownsRow B e s v n xs := by
  refine ⟨h.1, ?_⟩
  rcases h.2 with h' | ⟨g, cap, cur, rfl, hg, hh, hr⟩
  · exact .inl h'
  · exact .inr ⟨g, cap, cur, rfl, hg, (hb.block g (Array.getElem?_eq_some_iff.1 hh).1).trans hh, hr⟩
theorem RcIn.below {w w' : World} {r B nb np : Nat} {L : List Value} {m : List Bool} (h : RcIn w r B nb np L m) (hb : Below w.heap.size w w') : RcIn w' r B nb np L m := by
  obtain ⟨v, ve, h1, h2⟩ := h.chip
  exact ⟨⟨v, ve, h1.kept hb, owns_belowR h2 hb⟩, h.ll, h.ml, fun v hv => (h.pg v hv).below hb⟩
end Go.Proofs.Ythafcnilhloldaa
