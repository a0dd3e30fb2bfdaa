/-
  Rows that begin anywhere in a block of the call's own: append of one part of a row to another one, and slices.Reverse.
-/
import Derived.Test.YtfgelncfmopibaaSnNewR
import Derived.ArgAppend
namespace Go.Proofs.Ytfgelncfmopibaa
open Go.RowKit
/-- From cell o of block g on lie these. -/
def RowF (w : World) (g o : Nat) (l : List Fd) : Prop := ∃ cs : List Value, Blk w g 33 cs ∧ o + l.length * 6 ≤ cs.length ∧ ∀ j, j < l.length * 6 → cs[o + j]? = (flatF l)[j]?
theorem RowF.kept {w w' : World} {g o : Nat} {l : List Fd} (h : RowF w g o l) (hb : Below w.heap.size w w') : RowF w' g o l := by
  obtain ⟨cs, h1, h2⟩ := h
  exact ⟨cs, h1.kept hb, h2⟩
theorem RowF.drew {w : World} {g o : Nat} {l : List Fd} (h : RowF w g o l) : RowF w.drew g o l := h
theorem RowF.cell {w : World} {g o : Nat} {l : List Fd} (h : RowF w g o l) {j : Nat} {v : Value} (hj : j < l.length * 6) (hv : (flatF l)[j]? = some v) : w.cell? ⟨g, o + j, none⟩ = some v := by
  obtain ⟨cs, h1, _, h3⟩ := h
  exact h1.cell' ((h3 j hj).trans hv)
theorem RowF.elem {w : World} {g o k : Nat} {l : List Fd} (h : RowF w g o l) (hk : k < l.length) : w.cell? ⟨g, o + k * 6, none⟩ = some (.int .i64 (eF l k).ph) ∧ w.cell? ⟨g, o + k * 6 + 1, none⟩ = some (.int .i64 (eF l k).pg) ∧ w.cell? ⟨g, o + k * 6 + 2, none⟩ = some (.int .i64 (eF l k).k) ∧ w.cell? ⟨g, o + k * 6 + 3, none⟩ = some (.int .i64 (eF l k).p) ∧ w.cell? ⟨g, o + k * 6 + 4, none⟩ = some (.int .i64 (eF l k).s) ∧ w.cell? ⟨g, o + k * 6 + 5, none⟩ = some (.int .i64 (eF l k).t) := by
  obtain ⟨f0, f1, f2, f3, f4, f5⟩ := flatF_at hk
  simp only [Nat.add_assoc]
  exact ⟨h.cell (by omega) f0, h.cell (by omega) f1, h.cell (by omega) f2, h.cell (by omega) f3, h.cell (by omega) f4, h.cell (by omega) f5⟩
theorem RowF.inF {w : World} {g o n c : Nat} {l : List Fd} (h : RowF w g o l) (hl : l.length = n) (hc : n ≤ c) (hm : c ≤ maxLen) (hn : n ≤ 1000000) : InF w (some ⟨g, o, none⟩) n c l := by
  refine ⟨hl, hc, hm, by omega, fun _ => ⟨g, o, rfl, ?_, fun i hi => h.elem (by omega)⟩, fun h => by cases h⟩
  obtain ⟨cs, h1, _⟩ := h
  exact h1.lt
theorem rowF_of_owns {w : World} {B n c : Nat} {p : Option Addr} {l : List Fd} (h : w.ownsRow B 33 6 (.slice p n c) n (flatF l)) (h0 : 0 < n) : ∃ g, p = some ⟨g, 0, none⟩ ∧ B ≤ g ∧ n ≤ c ∧ c ≤ maxLen ∧ RowF w g 0 l := by
  have hl : l.length = n := by have := h.1; rw [flatF_length] at this; omega
  rcases h.2 with ⟨_, h'⟩ | ⟨g, cap, cur, hv, hB, hh, hnc, hcm, hsz, htk⟩
  · omega
  · simp only [Value.slice.injEq, true_and] at hv
    obtain ⟨rfl, rfl⟩ := hv
    refine ⟨g, rfl, hB, hnc, hcm, cur.toList, hh, ?_, fun j hj => ?_⟩
    · have : cur.toList.length = c * 6 := by simpa using hsz
      omega
    · rw [Nat.zero_add, ← htk, List.getElem?_take_of_lt (by omega)]
theorem rel_set {cs fs : List Value} {o N i : Nat} {v : Value} (h : ∀ j, j < N → cs[o + j]? = fs[j]?) (hi : i < N) (hc : o + N ≤ cs.length) (hf : N ≤ fs.length) : ∀ j, j < N → (cs.set (o + i) v)[o + j]? = (fs.set i v)[j]? := by
  intro j hj
  by_cases e : j = i
  · subst e
    rw [List.getElem?_set_self (by omega), List.getElem?_set_self (by omega)]
  · rw [List.getElem?_set_ne (by omega), List.getElem?_set_ne (by omega)]
    exact h j hj
theorem RowF.set {w : World} {g o k : Nat} {l : List Fd} (h : RowF w g o l) (hk : k < l.length) (r : Fd) :
    ∃ w', (storeVar 33 ⟨g, o + k * 6, none⟩ r.val).run Try.prog w = .ok () w' ∧ RowF w' g o (l.set k r) ∧ Turned w w' g := by
  obtain ⟨e0, e1, e2, e3, e4, e5⟩ := h.elem hk
  obtain ⟨cs, h1, h2, h3⟩ := h
  have hst := run_storeCells_cells (P := Try.prog) g (o + k * 6) [.int .i64 r.ph, .int .i64 r.pg, .int .i64 r.k, .int .i64 r.p, .int .i64 r.s, .int .i64 r.t] 0 w (fun j hj => by
      match j, hj with
      | 0, _ => simp [e0]
      | 1, _ => simp [e1]
      | 2, _ => simp [e2]
      | 3, _ => simp [e3]
      | 4, _ => simp [e4]
      | 5, _ => simp [e5]) (fun j _ => by simpa using h1.frozen (o + k * 6 + (0 + j))) (by simp [Value.oneCell'])
  have hs := ((((((h1.set (o + k * 6) (.int .i64 r.ph)).set (o + k * 6 + 1) (.int .i64 r.pg)).set (o + k * 6 + 2) (.int .i64 r.k)).set (o + k * 6 + 3) (.int .i64 r.p)).set (o + k * 6 + 4) (.int .i64 r.s)).set (o + k * 6 + 5) (.int .i64 r.t))
  have ht := ((((((Turned.setCell w ⟨g, o + k * 6, none⟩ (.int .i64 r.ph)).trans (Turned.setCell _ ⟨g, o + k * 6 + 1, none⟩ (.int .i64 r.pg))).trans (Turned.setCell _ ⟨g, o + k * 6 + 2, none⟩ (.int .i64 r.k))).trans (Turned.setCell _ ⟨g, o + k * 6 + 3, none⟩ (.int .i64 r.p))).trans (Turned.setCell _ ⟨g, o + k * 6 + 4, none⟩ (.int .i64 r.s))).trans (Turned.setCell _ ⟨g, o + k * 6 + 5, none⟩ (.int .i64 r.t)))
  dsimp only at ht
  refine ⟨_, ?_, ⟨_, hs, by simpa using h2, fun j hj => ?_⟩, ht⟩
  · cases hq : Try.prog.info? 33 with
    | none => have := sizeF; simp [hq] at this
    | some i =>
      have hsz : i.size = 6 := by have := sizeF; simpa [hq] using this
      simp only [storeVar, sizeOf, typeInfo, Sem.run_bind, Value.cells]
      simp [hsz, hq, hst, World.setCells]
  · rw [List.length_set] at hj
    have hfl : l.length * 6 ≤ (flatF l).length := by rw [flatF_length]; exact Nat.le_refl _
    rw [← flatF_set r hk]
    simp only [Nat.add_assoc] at h2 hs ⊢
    have q0 := rel_set (v := .int .i64 r.ph) h3 (i := k * 6) (by omega) (by simpa using h2) (by simpa using hfl)
    have q1 := rel_set (v := .int .i64 r.pg) q0 (i := k * 6 + 1) (by omega) (by simpa using h2) (by simpa using hfl)
    have q2 := rel_set (v := .int .i64 r.k) q1 (i := k * 6 + 2) (by omega) (by simpa using h2) (by simpa using hfl)
    have q3 := rel_set (v := .int .i64 r.p) q2 (i := k * 6 + 3) (by omega) (by simpa using h2) (by simpa using hfl)
    have q4 := rel_set (v := .int .i64 r.s) q3 (i := k * 6 + 4) (by omega) (by simpa using h2) (by simpa using hfl)
    have q5 := rel_set (v := .int .i64 r.t) q4 (i := k * 6 + 5) (by omega) (by simpa using h2) (by simpa using hfl)
    exact q5 j hj
theorem wp_storeRow {op : Oper} {a : Act} {w : World} {K : Act → World → Prop} {Q : Exit → Act → World → Prop} (x y : Operand) (ho : op.op = .store 33 x y) (g o k : Nat) (r : Fd) (hx : a.eval x = .pointer (some ⟨g, o + k * 6, none⟩)) (hy : a.eval y = r.val)
    {l : List Fd} (h : RowF w g o l) (hk : k < l.length)
    (hK : ∀ w', RowF w' g o (l.set k r) → Turned w w' g → K (a.put op.dst undef) w') : op.wp Try.prog a w K Q := by
  obtain ⟨w', hrun, hown, ht⟩ := h.set hk r
  unfold Oper.wp execOp
  simp only [ho, hx, hy, Instr.storeAt, Instr.sureAddr, Sem.run_bind, Sem.run_pure, Result.andThen_ok, hrun]
  exact hK _ hown ht
theorem run_append_room_off {w : World} (t ty e : TypeId) (i : TypeInfo) (ht : Try.prog.underlying t = some (.slice e)) (hi : Try.prog.info? e = some i)
    (g off sLen sCap : Nat) (cur : Array Value) (hg : w.heap[g]? = some (.cells cur e (0, 0)))
    (a : Addr) (m c : Nat) (news : List Value) (hl : news.length = m * i.size) (hnews : ∀ j u, news[j]? = some u → w.cell? (a.add j) = some u) (h1 : ∀ u ∈ news, u.oneCell' = true)
    (hroom : sLen + m ≤ sCap) (hfit : off + sLen * i.size + news.length ≤ cur.size) :
    (Builtin.append_ #[t, t] ty #[.slice (some ⟨g, off, none⟩) sLen sCap, .slice (some a) m c]).run Try.prog w =
      .ok (.slice (some ⟨g, off, none⟩) (sLen + m) sCap) (w.setRow g (cur.toList.take (off + sLen * i.size) ++ news ++ cur.toList.drop (off + sLen * i.size + news.length)).toArray) := by
  have hf := run_firstCells_some (P := Try.prog) w i.size m a m c news hl hnews
  have hst := run_storeCells_at Try.prog g (off + sLen * i.size) e news 0 cur w hg (by simpa using hfit) h1
  simp only [Nat.add_zero] at hst
  simp [Builtin.append_, run_underlying ht, sizeOf, typeInfo, hi, Builtin.lenOf, hroom, hf, Addr.add_lit, hst]
theorem wp_append_rot {o : Oper} {a : Act} {K : Act → World → Prop} {Q : Exit → Act → World → Prop} (s x : Operand)
    (ho : o.op = .call { callee := .builtin .append, args := #[s, x], argTypes := #[27, 27] }) (B g n c k : Nat) (l : List Fd) (W : World) (hs : a.eval s = .slice (some ⟨g, k * 6, none⟩) (n - k) (c - k)) (hx : a.eval x = .slice (some ⟨g, 0, none⟩) k c)
    (hown : W.ownsRow B 33 6 (.slice (some ⟨g, 0, none⟩) n c) n (flatF l)) (hk : k < n) (hn : n ≤ 1000) (hB : B ≤ W.heap.size)
    (hK : ∀ g' o' c' w', RowF w' g' o' (l.drop k ++ l.take k) → n ≤ c' → c' ≤ maxLen → B ≤ g' → Below B W w' → K (a.put o.dst (.slice (some ⟨g', o', none⟩) n c')) w') : o.wp Try.prog a W K Q := by
  obtain ⟨i0, hi, hz0, hz1, hz2⟩ := info_parts infoF
  have hl : l.length = n := by have := hown.1; rw [flatF_length] at this; omega
  have hrow := hown
  obtain ⟨g1, e1, hgB, hnc, hcm, hR⟩ := rowF_of_owns hrow (by omega)
  cases e1
  have hlk : (l.drop k ++ l.take k).length = n := by simp; omega
  have hnews : ∀ j u, (flatF (l.take k))[j]? = some u → W.cell? ((⟨g, 0, none⟩ : Addr).add j) = some u := fun j u hu => by
    have hj : j < k * 6 := by
      rcases Nat.lt_or_ge j (k * 6) with h' | h'
      · exact h'
      · rw [List.getElem?_eq_none (by rw [flatF_length, List.length_take]; omega)] at hu; cases hu
    rw [← flatF_take, List.getElem?_take_of_lt hj] at hu
    rw [addr_add]
    exact hR.cell (by omega) hu
  have hll : (flatF (l.take k)).length = k * 6 := by rw [flatF_length, List.length_take]; omega
  have hwp : ∀ v w', (Builtin.append_ #[27, 27] o.type #[.slice (some ⟨g, k * 6, none⟩) (n - k) (c - k), .slice (some ⟨g, 0, none⟩) k c]).run Try.prog W = .ok v w' → K (a.put o.dst v) w' → o.wp Try.prog a W K Q := fun v w' hr hk' => by
    unfold Oper.wp execOp
    simp only [ho, resolve, invoke, builtin, Sem.run_bind, Sem.run_pure, Result.andThen_ok, List.map_toArray, List.map_cons, List.map_nil, hs, hx, hr]
    exact hk'
  by_cases hroom : (n - k) + k ≤ c - k
  · rcases hown.2 with ⟨h', _⟩ | ⟨g2, cap, cur, hv, _, hh, _, _, hsz, htk⟩
    · cases h'
    · simp only [Value.slice.injEq, Option.some.injEq, Addr.mk.injEq, and_true, true_and] at hv
      obtain ⟨rfl, rfl⟩ := hv
      have hcl : cur.toList.length = c * 6 := by simpa using hsz
      have hrun := run_append_room_off (w := W) 27 o.type 33 i0 Try.underlying27 hi g (k * 6) (n - k) (c - k) cur hh ⟨g, 0, none⟩ k c (flatF (l.take k)) (by rw [hll, hz1]) hnews (flatF_one _) hroom (by rw [hz1, hll, hsz]; omega)
      rw [hz1, show k * 6 + (n - k) * 6 = n * 6 by omega, htk, hll, show n - k + k = n by omega] at hrun
      refine hwp _ _ hrun (hK g (k * 6) (c - k) _ ⟨_, Blk.setRow (cs := cur.toList) (by show W.heap[g]? = _; rw [hh]) _, ?_, fun j hj => ?_⟩ (by omega) (by omega) hgB ((Turned.setRow W g _).below (Below.refl _ _) hgB))
      · rw [hlk]; simp only [List.length_append, flatF_length, List.length_take, List.length_drop, hcl]; omega
      · rw [hlk] at hj
        rw [List.append_assoc, ← List.append_assoc, ← flatF_append, List.getElem?_append_left (by rw [flatF_length, List.length_append, List.length_take]; omega), ← List.getElem?_drop, flatF_drop, List.drop_append_of_le_length (by omega)]
  · have hll2 : (flatF (l.drop k)).length = (n - k) * 6 := by rw [flatF_length, List.length_drop]; omega
    obtain ⟨v', w', hrun, ho', hg'⟩ := run_append_arg_grows W 27 o.type 33 i0 (.agg #[.int .i64 0, .int .i64 0, .int .i64 0, .int .i64 0, .int .i64 0, .int .i64 0]) 6 48 Try.underlying27 hi hz0 hz1 hz2 rfl (by decide) ⟨g, k * 6, none⟩ (n - k) (c - k) (flatF (l.drop k)) hll2 (fun j u hu => by
      have hj : j < (n - k) * 6 := by
        rcases Nat.lt_or_ge j ((n - k) * 6) with h' | h'
        · exact h'
        · rw [List.getElem?_eq_none (by rw [hll2]; exact h')] at hu; cases hu
      rw [← flatF_drop, List.getElem?_drop] at hu
      rw [addr_add]
      have := hR.cell (j := k * 6 + j) (by omega) hu
      rwa [Nat.zero_add] at this) ⟨g, 0, none⟩ k c (flatF (l.take k)) hll hnews (by omega) (by unfold maxLen; omega) (by omega)
    rw [show n - k + k = n by omega, ← flatF_append] at ho'
    obtain ⟨p', c', hv⟩ := owns_sliceF ho'
    subst hv
    obtain ⟨g', rfl, hgB', hnc', hcm', hR'⟩ := rowF_of_owns ho' (by omega)
    exact hwp _ _ hrun (hK g' 0 c' w' hR' hnc' hcm' (by omega) ((below_grown0 hg').mono hB))
end Go.Proofs.Ytfgelncfmopibaa
