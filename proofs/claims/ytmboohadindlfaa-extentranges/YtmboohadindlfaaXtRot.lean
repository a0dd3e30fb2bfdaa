/-
  Rows of extents that begin anywhere in a block of the call's own: append of one part of a row to another one.
-/
import Derived.Test.YtmboohadindlfaaXtRK
import Derived.ArgAppend
namespace Go.Proofs.Ytmboohadindlfaa
open Go.RowKit
theorem flatE_take (L : List Ext) (k : Nat) : (flatE L).take (k * 3) = flatE (L.take k) := by
  induction L generalizing k with
  | nil => simp [flatE]
  | cons x L ih =>
    cases k with
    | zero => simp [flatE]
    | succ k => rw [flatE_cons, show (k + 1) * 3 = k * 3 + 1 + 1 + 1 by omega, List.take_succ_cons, List.take_succ_cons, List.take_succ_cons, ih, List.take_succ_cons, flatE_cons]
theorem flatE_drop (L : List Ext) (k : Nat) : (flatE L).drop (k * 3) = flatE (L.drop k) := by
  induction L generalizing k with
  | nil => simp [flatE]
  | cons x L ih =>
    cases k with
    | zero => simp
    | succ k => rw [flatE_cons, show (k + 1) * 3 = k * 3 + 1 + 1 + 1 by omega, List.drop_succ_cons, List.drop_succ_cons, List.drop_succ_cons, ih, List.drop_succ_cons]
theorem sliceE_back (b o n c k : Nat) (h : k < n) (hc : n ≤ c) (W : World) :
    (Instr.slice 22 (.slice (some ⟨b, o, none⟩) n c) (some (.int .i64 (k : Int))) none none).run Try.prog W = .ok (.slice (some ⟨b, o + k * 3, none⟩) (n - k) (c - k)) W := by
  have h1 : ¬ c = k := by omega
  obtain ⟨i0, hi, _, hz1, _⟩ := info_parts infoE
  simp [Instr.slice, Instr.sliceBounds, Instr.sliceBound, run_underlying Try.underlying22, asIntOf, h1, addr_add, sizeOf, typeInfo, hi, hz1]
  intro h3; omega
theorem sliceE_front (p : Option Addr) (n c k : Nat) (h : k ≤ n) (hc : n ≤ c) (W : World) :
    (Instr.slice 22 (.slice p n c) none (some (.int .i64 (k : Int))) none).run Try.prog W = .ok (.slice p k c) W := by
  obtain ⟨i0, hi, _, _, _⟩ := info_parts infoE
  simp [Instr.slice, Instr.sliceBounds, Instr.sliceBound, run_underlying Try.underlying22, asIntOf, sizeOf, typeInfo, hi]
  rw [if_pos (by omega)]
  have : (Option.map (fun x : Addr => x.add 0) p) = p := by
    cases p with
    | none => rfl
    | some a => obtain ⟨b, o, s⟩ := a; cases s <;> simp [Addr.add]
  rw [this, ite_self]
/-- From cell o of block g on lie these. -/
def RowE (w : World) (g o : Nat) (l : List Ext) : Prop := ∃ cs : List Value, Blk w g 31 cs ∧ o + l.length * 3 ≤ cs.length ∧ ∀ j, j < l.length * 3 → cs[o + j]? = (flatE l)[j]?
theorem RowE.kept {w w' : World} {g o : Nat} {l : List Ext} (h : RowE w g o l) (hb : Below w.heap.size w w') : RowE w' g o l := by
  obtain ⟨cs, h1, h2⟩ := h
  exact ⟨cs, h1.kept hb, h2⟩
theorem RowE.drew {w : World} {g o : Nat} {l : List Ext} (h : RowE w g o l) : RowE w.drew g o l := h
theorem RowE.cell {w : World} {g o : Nat} {l : List Ext} (h : RowE w g o l) {j : Nat} {v : Value} (hj : j < l.length * 3) (hv : (flatE l)[j]? = some v) : w.cell? ⟨g, o + j, none⟩ = some v := by
  obtain ⟨cs, h1, _, h3⟩ := h
  exact h1.cell' ((h3 j hj).trans hv)
theorem RowE.elem {w : World} {g o k : Nat} {l : List Ext} (h : RowE w g o l) (hk : k < l.length) : w.cell? ⟨g, o + k * 3, none⟩ = some (.int .i64 (eE l k).lo) ∧ w.cell? ⟨g, o + k * 3 + 1, none⟩ = some (.int .i64 (eE l k).ln) ∧ w.cell? ⟨g, o + k * 3 + 2, none⟩ = some (.int .i64 (eE l k).ph) := by
  obtain ⟨f0, f1, f2⟩ := flatE_at hk
  simp only [Nat.add_assoc]
  exact ⟨h.cell (by omega) f0, h.cell (by omega) f1, h.cell (by omega) f2⟩
theorem RowE.inE {w : World} {g o n c : Nat} {l : List Ext} (h : RowE w g o l) (hl : l.length = n) (hc : n ≤ c) (hm : c ≤ maxLen) (hn : n ≤ 1000000) : InE w (some ⟨g, o, none⟩) n c l := by
  refine ⟨hl, hc, hm, by omega, fun _ => ⟨g, o, rfl, ?_, fun i hi => h.elem (by omega)⟩, fun h => by cases h⟩
  obtain ⟨cs, h1, _⟩ := h
  exact h1.lt
theorem rowE_of_owns {w : World} {B n c : Nat} {p : Option Addr} {l : List Ext} (h : w.ownsRow B 31 3 (.slice p n c) n (flatE l)) (h0 : 0 < n) : ∃ g, p = some ⟨g, 0, none⟩ ∧ B ≤ g ∧ n ≤ c ∧ c ≤ maxLen ∧ RowE w g 0 l := by
  have hl : l.length = n := by have := h.1; rw [flatE_length] at this; omega
  rcases h.2 with ⟨_, h'⟩ | ⟨g, cap, cur, hv, hB, hh, hnc, hcm, hsz, htk⟩
  · omega
  · simp only [Value.slice.injEq, true_and] at hv
    obtain ⟨rfl, rfl⟩ := hv
    refine ⟨g, rfl, hB, hnc, hcm, cur.toList, hh, ?_, fun j hj => ?_⟩
    · have : cur.toList.length = c * 3 := by simpa using hsz
      omega
    · rw [Nat.zero_add, ← htk, List.getElem?_take_of_lt (by omega)]
theorem run_append_room_off {w : World} (t ty e : TypeId) (i : TypeInfo) (ht : Try.prog.underlying t = some (.slice e)) (hi : Try.prog.info? e = some i)
    (g off sLen sCap : Nat) (cur : Array Value) (hg : w.heap[g]? = some (.cells cur e (0, 0)))
    (a : Addr) (m c : Nat) (news : List Value) (hl : news.length = m * i.size) (hnews : ∀ j u, news[j]? = some u → w.cell? (a.add j) = some u) (h1 : ∀ u ∈ news, u.oneCell' = true)
    (hroom : sLen + m ≤ sCap) (hfit : off + sLen * i.size + news.length ≤ cur.size) :
    (Builtin.append_ #[t, t] ty #[.slice (some ⟨g, off, none⟩) sLen sCap, .slice (some a) m c]).run Try.prog w =
      .ok (.slice (some ⟨g, off, none⟩) (sLen + m) sCap) (w.setRow g (cur.toList.take (off + sLen * i.size) ++ news ++ cur.toList.drop (off + sLen * i.size + news.length)).toArray) := by
  have hf := run_firstCells_some (P := Try.prog) w i.size m a m c news hl hnews
  have hst := run_storeCells_at Try.prog g (off + sLen * i.size) e news 0 cur w hg (by simpa using hfit) h1
  simp only [Nat.add_zero] at hst
  simp [Builtin.append_, run_underlying ht, sizeOf, typeInfo, hi, Builtin.lenOf, hroom, hf, Addr.add_lit, hst]
theorem wp_append_rot {o : Oper} {a : Act} {K : Act → World → Prop} {Q : Exit → Act → World → Prop} (s x : Operand)
    (ho : o.op = .call { callee := .builtin .append, args := #[s, x], argTypes := #[22, 22] }) (B g n c k : Nat) (l : List Ext) (W : World) (hs : a.eval s = .slice (some ⟨g, k * 3, none⟩) (n - k) (c - k)) (hx : a.eval x = .slice (some ⟨g, 0, none⟩) k c)
    (hown : W.ownsRow B 31 3 (.slice (some ⟨g, 0, none⟩) n c) n (flatE l)) (hk : k < n) (hn : n ≤ 1000) (hB : B ≤ W.heap.size)
    (hK : ∀ g' o' c' w', RowE w' g' o' (l.drop k ++ l.take k) → n ≤ c' → c' ≤ maxLen → B ≤ g' → Below B W w' → K (a.put o.dst (.slice (some ⟨g', o', none⟩) n c')) w') : o.wp Try.prog a W K Q := by
  obtain ⟨i0, hi, hz0, hz1, hz2⟩ := info_parts infoE
  have hl : l.length = n := by have := hown.1; rw [flatE_length] at this; omega
  have hrow := hown
  obtain ⟨g1, e1, hgB, hnc, hcm, hR⟩ := rowE_of_owns hrow (by omega)
  cases e1
  have hlk : (l.drop k ++ l.take k).length = n := by simp; omega
  have hnews : ∀ j u, (flatE (l.take k))[j]? = some u → W.cell? ((⟨g, 0, none⟩ : Addr).add j) = some u := fun j u hu => by
    have hj : j < k * 3 := by
      rcases Nat.lt_or_ge j (k * 3) with h' | h'
      · exact h'
      · rw [List.getElem?_eq_none (by rw [flatE_length, List.length_take]; omega)] at hu; cases hu
    rw [← flatE_take, List.getElem?_take_of_lt hj] at hu
    rw [addr_add]
    exact hR.cell (by omega) hu
  have hll : (flatE (l.take k)).length = k * 3 := by rw [flatE_length, List.length_take]; omega
  have hwp : ∀ v w', (Builtin.append_ #[22, 22] o.type #[.slice (some ⟨g, k * 3, none⟩) (n - k) (c - k), .slice (some ⟨g, 0, none⟩) k c]).run Try.prog W = .ok v w' → K (a.put o.dst v) w' → o.wp Try.prog a W K Q := fun v w' hr hk' => by
    unfold Oper.wp execOp
    simp only [ho, resolve, invoke, builtin, Sem.run_bind, Sem.run_pure, Result.andThen_ok, List.map_toArray, List.map_cons, List.map_nil, hs, hx, hr]
    exact hk'
  by_cases hroom : (n - k) + k ≤ c - k
  · rcases hown.2 with ⟨h', _⟩ | ⟨g2, cap, cur, hv, _, hh, _, _, hsz, htk⟩
    · cases h'
    · simp only [Value.slice.injEq, Option.some.injEq, Addr.mk.injEq, and_true, true_and] at hv
      obtain ⟨rfl, rfl⟩ := hv
      have hcl : cur.toList.length = c * 3 := by simpa using hsz
      have hrun := run_append_room_off (w := W) 22 o.type 31 i0 Try.underlying22 hi g (k * 3) (n - k) (c - k) cur hh ⟨g, 0, none⟩ k c (flatE (l.take k)) (by rw [hll, hz1]) hnews (flatE_one _) hroom (by rw [hz1, hll, hsz]; omega)
      rw [hz1, show k * 3 + (n - k) * 3 = n * 3 by omega, htk, hll, show n - k + k = n by omega] at hrun
      refine hwp _ _ hrun (hK g (k * 3) (c - k) _ ⟨_, Blk.setRow (cs := cur.toList) (by show W.heap[g]? = _; rw [hh]) _, ?_, fun j hj => ?_⟩ (by omega) (by omega) hgB ((Turned.setRow W g _).below (Below.refl _ _) hgB))
      · rw [hlk]; simp only [List.length_append, flatE_length, List.length_take, List.length_drop, hcl]; omega
      · rw [hlk] at hj
        rw [List.append_assoc, ← List.append_assoc, ← flatE_append, List.getElem?_append_left (by rw [flatE_length, List.length_append, List.length_take]; omega), ← List.getElem?_drop, flatE_drop, List.drop_append_of_le_length (by omega)]
  · have hll2 : (flatE (l.drop k)).length = (n - k) * 3 := by rw [flatE_length, List.length_drop]; omega
    obtain ⟨v', w', hrun, ho', hg'⟩ := run_append_arg_grows W 22 o.type 31 i0 (.agg #[.int .i64 0, .int .i64 0, .int .i64 0]) 3 24 Try.underlying22 hi hz0 hz1 hz2 rfl (by decide) ⟨g, k * 3, none⟩ (n - k) (c - k) (flatE (l.drop k)) hll2 (fun j u hu => by
      have hj : j < (n - k) * 3 := by
        rcases Nat.lt_or_ge j ((n - k) * 3) with h' | h'
        · exact h'
        · rw [List.getElem?_eq_none (by rw [hll2]; exact h')] at hu; cases hu
      rw [← flatE_drop, List.getElem?_drop] at hu
      rw [addr_add]
      have := hR.cell (j := k * 3 + j) (by omega) hu
      rwa [Nat.zero_add] at this) ⟨g, 0, none⟩ k c (flatE (l.take k)) hll hnews (by omega) (by unfold maxLen; omega) (by omega)
    rw [show n - k + k = n by omega, ← flatE_append] at ho'
    obtain ⟨p', c', hv⟩ := owns_slice ho'
    subst hv
    obtain ⟨g', rfl, hgB', hnc', hcm', hR'⟩ := rowE_of_owns ho' (by omega)
    exact hwp _ _ hrun (hK g' 0 c' w' hR' hnc' hcm' (by omega) ((below_grown0 hg').mono hB))
end Go.Proofs.Ytmboohadindlfaa
