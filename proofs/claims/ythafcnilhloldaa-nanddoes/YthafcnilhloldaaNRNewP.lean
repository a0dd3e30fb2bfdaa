/-
  What the reference's New keeps: events in new memory, blocks apart from each other.
-/
import Derived.Test.YthafcnilhloldaaNRc
import Derived.Test.YthafcnilhloldaaNRs
namespace Go.Proofs.Ythafcnilhloldaa
open Go.RowKit
theorem wp_appendNilB {o : Oper} {a : Act} {w : World} {K : Act → World → Prop} {Q : Exit → Act → World → Prop} (x : Operand) (ho : o.op = .call { callee := .builtin .append, args := #[.const (.slice none 0 0), x], argTypes := #[70, 70] }) (q : Option Addr) (m d : Nat) (ys : List Nat) (hx : a.eval x = .slice q m d) (hin : In w q m d ys)
    (h : ∀ p' m' c' w', Below w.heap.size w w' → In w' p' m' c' ys → (∀ a : Addr, 0 < m' → p' = some a → w.heap.size ≤ a.block ∧ ∃ cs, w'.heap[a.block]? = some (.cells cs 5 (0, 0))) → K (a.put o.dst (.slice p' m' c')) w') : o.wp Try.prog a w K Q := by
  obtain ⟨i0, hi, hz0, hz1, hz2⟩ := info_parts info5
  cases q with
  | none =>
    have hd := hin.nil rfl
    have hm : m = 0 := by have := hin.cap; omega
    subst hd
    subst hm
    have hrun := run_append_owned_none (P := Try.prog) (w := w) w.heap.size 70 o.type 5 i0 1 Try.underlying70 hi (.slice none 0 0) 0 [] (World.ownsRow_nil _ _ _ _)
    unfold Oper.wp execOp
    have hn : a.eval (.const (.slice none 0 0)) = .slice none 0 0 := rfl
    simp only [ho, resolve, invoke, builtin, Sem.run_bind, Sem.run_pure, Result.andThen_ok, List.map_toArray, List.map_cons, List.map_nil, hn, hx, hrun]
    exact h none 0 0 w (Below.refl _ _) hin (fun a h0 => by omega)
  | some ad =>
    have hroom := hin.room
    refine wp_append_own _ (.const (.slice none 0 0)) x 70 ho w.heap.size 5 i0 (.int .u8 0) 1 1 Try.underlying70 hi hz0 hz1 hz2 rfl (by decide) (.slice none 0 0) 0 [] rfl (World.ownsRow_nil _ _ _ _) ad m d (vals ys) hx (by rw [vals_length, hin.len, Nat.mul_one]) (hin.cells rfl) (vals_one _) (by have := hin.max; have := hin.cap; omega) (by omega) (Nat.le_refl _) ?_
    intro v' w' h1 h2 _
    rw [List.nil_append] at h1
    obtain ⟨p', c', rfl, hin'⟩ := in_of_owns h1 hin.byte (by omega)
    refine h p' _ c' w' ((Below.refl _ _).grown h2 (Nat.le_refl _) (fun i hi => by cases hi)) hin' (fun a _ ha => ?_)
    subst ha
    obtain ⟨b, o, hpe, _⟩ := hin'.at' (by assumption)
    cases hpe
    obtain ⟨cs, hcs⟩ := owns_objR h1 (i := b) (by rcases h1.2 with ⟨h0, _⟩ | ⟨g, cap, cur, h0, _⟩ <;> cases h0; rfl)
    exact ⟨by have := (h1.lt b (by rcases h1.2 with ⟨h0, _⟩ | ⟨g, cap, cur, h0, _⟩ <;> cases h0; rfl)).1; exact this, cs, hcs⟩
/-- The events that have been kept so far: their row, and where their masks lie. -/
structure EvAcc (es : List Ev) (k B : Nat) (cs : List Value) (f : Nat → Option Addr × Nat × Nat) (w : World) : Prop where
  len : cs.length = k * 3
  row : ∀ i e, i < k → es[i]? = some e → cs[i * 3]? = some (.int .i64 e.at') ∧ cs[i * 3 + 1]? = some (.int .i64 e.kind) ∧ cs[i * 3 + 2]? = some (.slice (f i).1 (f i).2.1 (f i).2.2)
  msk : ∀ i e, i < k → es[i]? = some e → In w (f i).1 (f i).2.1 (f i).2.2 e.mask ∧ ∀ a : Addr, 0 < (f i).2.1 → (f i).1 = some a → B ≤ a.block ∧ ∃ cs, w.heap[a.block]? = some (.cells cs 5 (0, 0))
theorem EvAcc.zero (es : List Ev) (B : Nat) (f : Nat → Option Addr × Nat × Nat) (w : World) : EvAcc es 0 B [] f w := ⟨rfl, fun _ _ h => absurd h (Nat.not_lt_zero _), fun _ _ h => absurd h (Nat.not_lt_zero _)⟩
theorem EvAcc.snoc {es : List Ev} {k B : Nat} {cs : List Value} {f : Nat → Option Addr × Nat × Nat} {w w' : World} {ea ek : Int} {em : List Nat} {pm : Option Addr} {mm cm : Nat} (h : EvAcc es k B cs f w) (he : es[k]? = some ⟨ea, ek, em⟩)
    (hk : ∀ (j : Nat) (cs' : Array Value), w.heap[j]? = some (Obj.cells cs' 5 (0, 0)) → w'.heap[j]? = w.heap[j]?) (hs : w.heap.size ≤ w'.heap.size) (hin : In w' pm mm cm em) (hty : ∀ a : Addr, 0 < mm → pm = some a → B ≤ a.block ∧ ∃ cs, w'.heap[a.block]? = some (.cells cs 5 (0, 0))) :
    EvAcc es (k + 1) B (cs ++ [.int .i64 ea, .int .i64 ek, .slice pm mm cm]) (fun i => if i = k then (pm, mm, cm) else f i) w' := by
  refine ⟨by rw [List.length_append, h.len]; simp only [List.length_cons, List.length_nil]; omega, ?_, ?_⟩
  · intro i e hi hei
    by_cases hik : i = k
    · subst hik
      rw [he] at hei
      cases hei
      simp only [if_true]
      refine ⟨?_, ?_, ?_⟩
      · rw [List.getElem?_append_right (by rw [h.len]; omega), h.len, show i * 3 - i * 3 = 0 from by omega]; rfl
      · rw [List.getElem?_append_right (by rw [h.len]; omega), h.len, show i * 3 + 1 - i * 3 = 1 from by omega]; rfl
      · rw [List.getElem?_append_right (by rw [h.len]; omega), h.len, show i * 3 + 2 - i * 3 = 2 from by omega]; rfl
    · simp only [hik, if_false]
      obtain ⟨r0, r1, r2⟩ := h.row i e (by omega) hei
      have hl := h.len
      exact ⟨by rw [List.getElem?_append_left (by omega)]; exact r0, by rw [List.getElem?_append_left (by omega)]; exact r1, by rw [List.getElem?_append_left (by omega)]; exact r2⟩
  · intro i e hi hei
    by_cases hik : i = k
    · subst hik
      rw [he] at hei
      cases hei
      simp only [if_true]
      exact ⟨hin, hty⟩
    · simp only [hik, if_false]
      obtain ⟨h1, h2⟩ := h.msk i e (by omega) hei
      refine ⟨h1.same hs (fun a h0 ha _ => ?_), fun a h0 ha => ?_⟩
      · obtain ⟨_, cs', hcs⟩ := h2 a h0 ha
        exact hk _ cs' hcs
      · obtain ⟨hB, cs', hcs⟩ := h2 a h0 ha
        exact ⟨hB, cs', (hk _ cs' hcs).trans hcs⟩
theorem allP_new (np : Nat) (x : Bool) : allP np ⟨[], 0, 0, x⟩ = List.replicate np (fillP 255) := by
  apply List.ext_getElem?
  intro i
  unfold allP
  rw [List.getElem?_map, List.getElem?_replicate]
  by_cases hi : i < np
  · rw [List.getElem?_range hi, if_pos hi]; rfl
  · rw [List.getElem?_eq_none (l := List.range np) (by rw [List.length_range]; omega), if_neg hi]; rfl
theorem zip_atP {L : List Value} {m : List Bool} {i : Nat} {b : Bool} (hl : L.length = m.length) (h : m[i]? = some b) : (L.zip m)[i]? = some (L.getD i undef, b) := by
  induction m generalizing L i with
  | nil => cases h
  | cons a m ih =>
    cases L with
    | nil => simp at hl
    | cons v L =>
      cases i with
      | zero => cases h; rfl
      | succ i => exact ih (by simpa using hl) h
theorem blk_ty {w : World} {g : Nat} {t : TypeId} {cs : List Value} {cs' : Array Value} {t' : TypeId} (h : Blk w g t cs) (h' : w.heap[g]? = some (.cells cs' t' (0, 0))) : t = t' := by
  have := Eq.trans (Eq.symm h) h'
  simp only [Option.some.injEq, Obj.cells.injEq] at this
  exact this.2.1
theorem obj_ty {w : World} {g : Nat} {t t' : TypeId} {cs cs' : Array Value} (h : w.heap[g]? = some (.cells cs t (0, 0))) (h' : w.heap[g]? = some (.cells cs' t' (0, 0))) : t = t' := by
  rw [h] at h'
  simp only [Option.some.injEq, Obj.cells.injEq] at h'
  exact h'.2.1
/-- Blocks in new memory, apart from each other. -/
structure Aprt (M : Nat) (L : List Value) : Prop where
  pw : L.Pairwise (fun a b => ∀ k, a.ownBlock = some k → b.ownBlock ≠ some k)
  lo : ∀ y ∈ L, ∀ k, y.ownBlock = some k → M ≤ k
theorem Aprt.nil (M : Nat) : Aprt M [] := ⟨List.Pairwise.nil, fun y hy => by cases hy⟩
theorem Aprt.snoc {M g : Nat} {L : List Value} {u : Value} {w : World} {p : List (List Nat)} (h : Aprt M L) (hP : ∀ y ∈ L, PagesIn w y p) (hM : M ≤ g) (hg : w.heap.size ≤ g) (hU : ∀ k, u.ownBlock = some k → g < k) : Aprt M (L ++ [u]) := by
  refine ⟨List.pairwise_append.2 ⟨h.pw, List.pairwise_singleton _ u, fun a ha b hb k h1 h2 => ?_⟩, fun y hy k hk => ?_⟩
  · rw [List.mem_singleton.1 hb] at h2
    have e1 := (hP a ha).lt h1
    have e2 := hU k h2
    omega
  · rcases List.mem_append.1 hy with h1 | h1
    · exact h.lo y h1 k hk
    · rw [List.mem_singleton.1 h1] at hk
      have := hU k hk
      omega
theorem RsIn.new {wr : World} {nb np r gr cr B B1 n : Nat} {L : List Value} {mk : List Bool} {es : List Ev} {ve : Value} {cs : List Value} {f : Nat → Option Addr × Nat × Nat} (hg : GeoOk nb np) (hle : es.length = n)
    (kr : Blk wr r 85 [.int .i64 (nb : Int), .int .i64 (np : Int), .slice (some ⟨gr, 0, none⟩) nb cr, ve, .int .i64 0, .bool true]) (hBB : B ≤ B1) (hrow : wr.ownsRow B1 87 4 (.slice (some ⟨gr, 0, none⟩) nb cr) nb (rcOf (L.zip mk))) (hev : wr.ownsRow B1 72 3 ve n cs) (hE : EvAcc es n B cs f wr)
    (hPL : ∀ y ∈ L, PagesIn wr y (List.replicate np (fillP 255))) (hAP : Aprt B L) (hll : L.length = nb) (hml : mk.length = nb) (hBr : B ≤ r) :
    RsIn wr r { newStB nb np es mk with z := fun k => k < B } gr cr (fun i => L.getD i undef) ∧ ∀ k, fpOf r gr (fun i => L.getD i undef) nb k → B ≤ k := by
  unfold GeoOk at hg
  have hbl : ∀ i b, (newStB nb np es mk).bl[i]? = some b → ∃ x, mk[i]? = some x ∧ b = ⟨[], 0, 0, x⟩ ∧ i < nb := by
    intro i b hb
    have hb' : (mk.map (fun b => (⟨[], 0, 0, b⟩ : BlkS)))[i]? = some b := hb
    rw [List.getElem?_map] at hb'
    obtain ⟨x, hx, rfl⟩ := Option.map_eq_some_iff.1 hb'
    exact ⟨x, hx, rfl, by rw [← hml]; exact (List.getElem?_eq_some_iff.1 hx).1⟩
  have hmem : ∀ i, i < nb → L.getD i undef ∈ L := fun i hi => by
    have hlt : i < L.length := by rw [hll]; exact hi
    rw [List.getD_eq_getElem?_getD, List.getElem?_eq_getElem hlt]
    exact List.getElem_mem hlt
  obtain ⟨csg, hcsg⟩ := owns_objR hrow (i := gr) rfl
  have hgB := (hrow.lt gr rfl).1
  have hpo : ∀ i, i < nb → ∀ k, (L.getD i undef).ownBlock = some k → ∃ cs, wr.heap[k]? = some (.cells cs 46 (0, 0)) := fun i hi k hk => owns_objR (hPL _ (hmem i hi)).row hk
  have hfp : ∀ k, fpOf r gr (fun i => L.getD i undef) nb k → ∃ cs t, wr.heap[k]? = some (.cells cs t (0, 0)) ∧ t ≠ 72 ∧ t ≠ 5 := by
    rintro k (e | e | ⟨i, hi, e⟩)
    · rw [e]; exact ⟨_, _, kr, by decide, by decide⟩
    · rw [e]; exact ⟨_, _, hcsg, by decide, by decide⟩
    · obtain ⟨cs, hcs⟩ := hpo i hi k e
      exact ⟨_, _, hcs, by decide, by decide⟩
  obtain ⟨ep, ec, rfl⟩ := owns_slice hev
  refine ⟨?_, fun k e => ?_⟩
  rotate_left
  · rcases e with e | e | ⟨i, hi, e⟩
    · omega
    · omega
    · exact hAP.lo _ (hmem i hi) k e
  refine ⟨⟨ep, n, ec, kr, ⟨hle, ?_, ?_, ?_⟩⟩, ?_, by show (mk.map _).length = nb; rw [List.length_map, hml], ?_, ?_, ?_, ?_, ⟨by show 16 ≤ nb; omega, by show nb ≤ 256; omega⟩, ⟨by show 4 ≤ np; omega, by show np ≤ 32; omega⟩, ?_, ?_⟩
  · rcases hev.2 with ⟨h0, h1⟩ | ⟨g, cap, cur, h0, _, _, hc, _⟩
    · cases h0; omega
    · cases h0; exact hc
  · rcases hev.2 with ⟨h0, h1⟩ | ⟨g, cap, cur, h0, _, _, _, hm, _⟩
    · cases h0; unfold maxLen; omega
    · cases h0; exact hm
  · intro h0
    obtain ⟨b, hb⟩ : ∃ b, ep = some ⟨b, 0, none⟩ := by
      rcases hev.2 with ⟨_, h1⟩ | ⟨g, cap, cur, h1, _⟩
      · omega
      · cases h1; exact ⟨g, rfl⟩
    subst hb
    obtain ⟨cse, hcse⟩ := owns_objR hev (i := b) rfl
    refine ⟨b, 0, rfl, (hev.lt b rfl).2, ?_, fun i e he => ?_⟩
    · rintro (e | e)
      · obtain ⟨cs', t, hcs', ht, _⟩ := hfp b e
        exact ht (obj_ty hcs' hcse)
      · have := (hev.lt b rfl).1
        have e' : b < B := e
        omega
    · have hin : i < n := by rw [← hle]; exact (List.getElem?_eq_some_iff.1 he).1
      obtain ⟨r0, r1, r2⟩ := hE.row i e hin he
      obtain ⟨m1, m2⟩ := hE.msk i e hin he
      have q0 := hev.cells (g := b) rfl _ _ r0
      have q1 := hev.cells (g := b) rfl _ _ r1
      have q2 := hev.cells (g := b) rfl _ _ r2
      rw [addr_add] at q0 q1 q2
      refine ⟨_, _, _, q0, by rw [← Nat.add_assoc] at q1; exact q1, by rw [← Nat.add_assoc] at q2; exact q2, m1, fun a ha hqa => ?_⟩
      obtain ⟨hB, cs', hcs'⟩ := m2 a ha hqa
      rintro (e | e)
      · obtain ⟨cs2, t, hcs2, _, ht⟩ := hfp _ e
        exact ht (obj_ty hcs2 hcs')
      · have e' : a.block < B := e
        omega
  · rcases hrow.2 with ⟨h0, _⟩ | ⟨g, cap, cur, h0, _, hh, hc, _, hs, ht⟩
    · cases h0
    · cases h0
      refine ⟨cur.toList, by simpa [Blk] using hh, by rw [Array.length_toList]; exact hs, fun i b hb => ?_⟩
      obtain ⟨x, hx, rfl, hi⟩ := hbl i b hb
      obtain ⟨r0, r1, r2, r3⟩ := rcOf_at (zip_atP (hll.trans hml.symm) hx)
      have key : ∀ j, j < nb * 4 → cur.toList[j]? = (rcOf (L.zip mk))[j]? := fun j hj => by rw [← ht, List.getElem?_take_of_lt hj]
      exact ⟨(key _ (by omega)).trans r0, (key _ (by omega)).trans r1, (key _ (by omega)).trans r2, (key _ (by omega)).trans r3⟩
  · intro i b hb
    obtain ⟨x, hx, rfl, hi⟩ := hbl i b hb
    show PagesIn wr _ (allP np ⟨[], 0, 0, x⟩)
    rw [allP_new]
    exact hPL _ (hmem i hi)
  · intro e
    have := obj_ty kr (e ▸ hcsg)
    revert this; decide
  · intro i hi k e
    obtain ⟨cs', hcs'⟩ := hpo i hi k e
    refine ⟨fun e2 => ?_, fun e2 => ?_⟩
    · subst e2
      have := obj_ty kr hcs'
      revert this; decide
    · subst e2
      have := obj_ty hcsg hcs'
      revert this; decide
  · intro i j hi hj hne k e1 e2
    have hi' : i < L.length := by rw [hll]; exact hi
    have hj' : j < L.length := by rw [hll]; exact hj
    have g1 : L.getD i undef = L[i] := by rw [List.getD_eq_getElem?_getD, List.getElem?_eq_getElem hi']; rfl
    have g2 : L.getD j undef = L[j] := by rw [List.getD_eq_getElem?_getD, List.getElem?_eq_getElem hj']; rfl
    rw [g1] at e1
    rw [g2] at e2
    have hAP := hAP.pw
    rw [List.pairwise_iff_getElem] at hAP
    rcases Nat.lt_or_gt_of_ne hne with h | h
    · exact hAP i j hi' hj' h k e1 e2
    · exact hAP j i hj' hi' h k e2 e1
  · intro b hb
    obtain ⟨x, _, rfl⟩ := List.mem_map.1 hb
    exact ⟨Nat.le_refl _, Nat.zero_le _, Nat.le_refl _⟩
  · rcases hrow.2 with ⟨h0, _⟩ | ⟨g, cap, cur, h0, _, hh, hc, _⟩
    · cases h0
    · cases h0; exact hc
end Go.Proofs.Ythafcnilhloldaa
