/-
  A map of pages that a call made: what it holds, read, written, struck.
-/
import Derived.Test.YthafcnilhloldaaNBytes
import Derived.Test.YthafcnilhloldaaNLPages2
namespace Go.Proofs.Ythafcnilhloldaa
open Go.RowKit Go.Maps
def datP (P : List Nat) : DataW Unit := .agg (P.map fun x : Nat => .lit (.int .u8 (x : Int)))
theorem datP_inj {P Q : List Nat} (h : datP P = datP Q) : P = Q := by
  unfold datP at h
  injection h with h
  exact (List.map_inj_right (f := fun x : Nat => (DataW.lit (.int .u8 (x : Int)) : DataW Unit)) (fun x y e => by injection e with e; injection e with _ e; omega)).1 h
theorem vals_inj {P Q : List Nat} (h : (Value.agg (vals P).toArray) = .agg (vals Q).toArray) : P = Q := by
  injection h with h
  have h' : vals P = vals Q := by simpa using congrArg Array.toList h
  exact (List.map_inj_right (f := fun x : Nat => Value.int .u8 (x : Int)) (fun x y e => by injection e with _ e; omega)).1 h'
/-- A cell that is a byte. -/
def byteOf (v : Value) : Option Nat :=
  match v with
  | .int .u8 (.ofNat n) => some n
  | _ => none
theorem byteOf_inv {v : Value} {x : Nat} (h : byteOf v = some x) : v = .int .u8 (x : Int) := by
  unfold byteOf at h
  split at h
  · cases h; rfl
  · cases h
def bytesOf (l : List Value) : Option (List Nat) :=
  match l with
  | [] => some []
  | v :: r =>
    match byteOf v, bytesOf r with
    | some x, some xs => some (x :: xs)
    | _, _ => none
theorem bytesOf_mk (P : List Nat) : bytesOf (vals P) = some P := by
  induction P with
  | nil => rfl
  | cons x P ih =>
    have e : vals (x :: P) = .int .u8 (x : Int) :: vals P := rfl
    have e1 : byteOf (.int .u8 (x : Int)) = some x := rfl
    rw [e, bytesOf, ih, e1]
theorem bytesOf_inv {l : List Value} {P : List Nat} (h : bytesOf l = some P) : l = vals P := by
  induction l generalizing P with
  | nil => cases h; rfl
  | cons v r ih =>
    rw [bytesOf] at h
    split at h
    · next x xs h1 h2 =>
      cases h
      rw [byteOf_inv h1, ih h2]
      rfl
    · cases h
/-- How a page that is a map's element reads. -/
def pageElem (v : Value) : Option (DataW Unit × List MemPlace) :=
  match v with
  | .agg cs => (bytesOf cs.toList).map fun P => (datP P, [])
  | _ => none
theorem pageElem_mk (P : List Nat) : pageElem (.agg (vals P).toArray) = some (datP P, []) := by
  show (bytesOf (vals P)).map _ = _
  rw [bytesOf_mk]
  rfl
theorem pageElem_inv {v : Value} {z : DataW Unit × List MemPlace} (h : pageElem v = some z) : ∃ P : List Nat, v = .agg (vals P).toArray ∧ z.1 = datP P := by
  unfold pageElem at h
  split at h
  · next cs =>
    cases e : bytesOf cs.toList with
    | none => rw [e] at h; cases h
    | some P =>
      rw [e] at h
      cases h
      refine ⟨P, ?_, rfl⟩
      rw [← bytesOf_inv e]
  · cases h
/-- What the map holds. -/
def WasD (D : DataW Unit) (was : Int → Option (List Nat)) : Prop := ∀ t, Maps.has D (.int .i64 t) = (was t).isSome ∧ D.atKey (.int .i64 t) (datP (fillP 0)) = datP ((was t).getD (fillP 0))
theorem keyLit_int (t : Int) : WideAt.IsKeyLit (.int .i64 t) := trivial
theorem WasD.zero : WasD (.map []) (fun _ => none) := fun _ => ⟨rfl, rfl⟩
theorem WasD.put {D : DataW Unit} {was : Int → Option (List Nat)} (h : WasD D was) (hD : IsMap D) (k : Int) (P : List Nat) : WasD (D.put (.int .i64 k) (datP P)) (fun t => if t = k then some P else was t) := by
  intro t
  dsimp only
  by_cases e : t = k
  · subst e
    rw [if_pos rfl, has_put_same hD (keyLit_int _), atKey_put_same hD (keyLit_int _)]
    exact ⟨rfl, rfl⟩
  · have hne : (Lit.int .i64 t) ≠ .int .i64 k := fun h => e (by injection h)
    rw [if_neg e, has_put_other hne, atKey_put_other hne]
    exact h t
theorem WasD.del {D : DataW Unit} {was : Int → Option (List Nat)} (h : WasD D was) (k : Int) : WasD (D.del (.int .i64 k)) (fun t => if t = k then none else was t) := by
  intro t
  dsimp only
  by_cases e : t = k
  · subst e
    rw [if_pos rfl, has_false_of_atKey (fun z => atKey_del_same z), atKey_del_same]
    exact ⟨rfl, rfl⟩
  · have hne : (Lit.int .i64 t) ≠ .int .i64 k := fun h => e (by injection h)
    rw [if_neg e, atKey_del_other hne]
    refine ⟨?_, (h t).2⟩
    rw [← (h t).1]
    exact has_del_other hne
theorem wf_i64 {a : Int} (h0 : -100000 ≤ a) (h1 : a ≤ 100000) : (Lit.int .i64 a).wf = true := by
  simp [Lit.wf, IntKind.min, IntKind.max, IntKind.signed, IntKind.bits]
  omega
theorem key_ok {a : Int} (h0 : -100000 ≤ a) (h1 : a ≤ 100000) : keyOf Try.prog 3 (.int .i64 a) = some (.int .i64 a) := keyOf_int_mk Try.underlying3 (wf_i64 h0 h1)
/-- 'p, is := m[k]'. -/
theorem wpList_lookup_page (w : World) {ops : Array Oper} {rest : List Oper} {o : Oper} {a : Act} {Q : Exit → Act → World → Prop} (hg : o.guard = none) (m x : Operand) (hop : o.op = Op.lookup 52 m x true) (b n : Nat) (D : DataW Unit) (was : Int → Option (List Nat))
    (hm : a.eval m = .map (some b)) (hown : w.ownsMap Try.prog 3 pageElem b n D) (hW : WasD D was) (t : Int) (h0 : -100000 ≤ t) (h1 : t ≤ 100000) (hx : a.eval x = .int .i64 t)
    (hK : wpList Try.prog ops Q rest (a.put o.dst (.tuple #[.agg (vals ((was t).getD (fillP 0))).toArray, .bool (was t).isSome])) w) : wpList Try.prog ops Q (o :: rest) a w := by
  refine wpList_lookup_own_ok w hg m x 52 hop 3 46 (int_keyed Try.underlying3) Try.underlying52 pageElem (zeroPage w) (datP (fillP 0)) [] (pageElem_mk _) b n D hm hown _ _ hx (key_ok h0 h1) (fun v ps hv => ?_)
  obtain ⟨P, rfl, hP⟩ := pageElem_inv hv
  dsimp only at hP
  rw [(hW t).2] at hP
  rw [(hW t).1, ← datP_inj hP]
  exact hK
/-- 'm[k] = p', in a drawn region. -/
theorem wp_mapUpdate_page {w : World} {o : Oper} {a : Act} {K : Act → World → Prop} {Q : Exit → Act → World → Prop} (m x v : Operand) (hop : o.op = Op.mapUpdate 52 m x v) (b n : Nat) (D : DataW Unit) (was : Int → Option (List Nat))
    (hm : a.eval m = .map (some b)) (hown : w.ownsMap Try.prog 3 pageElem b n D) (hn : n < maxLen) (hW : WasD D was) (t : Int) (h0 : -100000 ≤ t) (h1 : t ≤ 100000) (hx : a.eval x = .int .i64 t) (P : List Nat) (hv : a.eval v = .agg (vals P).toArray)
    (hK : ∀ w', w'.ownsMap Try.prog 3 pageElem b (n + 1) (D.put (.int .i64 t) (datP P)) → WasD (D.put (.int .i64 t) (datP P)) (fun k => if k = t then some P else was k) → w.grownBy w' (some b) → K (a.put o.dst undef) w') : o.wp Try.prog a w K Q := by
  obtain ⟨w', hrun, r1, r2⟩ := hown.update (int_keyed Try.underlying3) Try.underlying52 hn (key_ok h0 h1) (pageElem_mk P)
  unfold Oper.wp
  simp only [execOp, hop, hm, hx, hv, Sem.run_bind, Sem.run_pure, hrun, Result.andThen_ok]
  exact hK w' r1 (hW.put hown.isMap t P) r2
/-- 'delete(m, k)'. -/
theorem wpList_delete_page (w : World) {ops : Array Oper} {rest : List Oper} {o : Oper} {a : Act} {Q : Exit → Act → World → Prop} (hg : o.guard = none) (m x : Operand) (hop : o.op = Op.call { callee := Callee.builtin Builtin.delete, args := #[m, x], argTypes := #[52, 3] }) (b n : Nat) (D : DataW Unit) (was : Int → Option (List Nat))
    (hm : a.eval m = .map (some b)) (hown : w.ownsMap Try.prog 3 pageElem b n D) (hW : WasD D was) (t : Int) (h0 : -100000 ≤ t) (h1 : t ≤ 100000) (hx : a.eval x = .int .i64 t)
    (hK : ∀ w' D', w'.ownsMap Try.prog 3 pageElem b n D' → WasD D' (fun k => if k = t then none else was k) → w.grownBy w' (some b) → wpList Try.prog ops Q rest (a.put o.dst (.tuple #[])) w') : wpList Try.prog ops Q (o :: rest) a w :=
  wpList_delete_own w hg m x 52 3 hop 46 (int_keyed Try.underlying3) Try.underlying52 pageElem b n D hm hown _ _ hx (key_ok h0 h1) (fun w' r1 r2 => hK w' _ r1 (hW.del t) r2.grown)
theorem inv_new (nb np : Nat) (es : List Ev) : Inv (newSt nb np es) (fun _ => none) := by
  intro t i ht hi
  have : pgAt (newSt nb np es) t i = blankP := by
    unfold pgAt pagesOf
    cases h : blkAt (newSt nb np es) t with
    | none => rfl
    | some k =>
      have hk : k.pages = [] := by
        have h' : (if 0 ≤ t then (List.replicate nb (⟨[], 0, 0, false⟩ : BlkS))[t.toNat]? else none) = some k := h
        by_cases h0 : 0 ≤ t
        · rw [if_pos h0] at h'
          rw [List.eq_of_mem_replicate (List.mem_of_getElem? h')]
        · rw [if_neg h0] at h'; cases h'
      show ((allP np k)[i]?).getD blankP = blankP
      rw [allP_get, hk]
      split <;> rfl
  rw [this]
  exact covers_self _
theorem sided_case {w : World} {c : Nat} {s : St} {bb : Nat} {PV : Nat → Value} (hC : ChipIn w c s bb PV) (hev : Kinds s) (o : CallS) (was : Int → Option (List Nat)) (hI : Inv s was) :
    (o.od = 0 → lkN (doesSt s o) o.ob = lkN s o.ob → doesSt s o = s ∧ ¬ doesE s o = 0 ∧ ¬ doesE s o = 25) ∧
    (o.od = 0 → ¬ lkN (doesSt s o) o.ob = lkN s o.ob → (doesE s o = 0 ∨ doesE s o = 25 ∨ doesE s o = 8) ∧ (0 ≤ o.ob ∧ o.ob < 256) ∧ (0 ≤ pgOf s o ∧ pgOf s o < 32) ∧ lkN s o.ob ≤ pgOf s o ∧ Inv (doesSt s o) (fun k => if k = 64 * o.ob + pgOf s o then some (fillP o.f) else was k)) ∧
    (o.od = 1 → doesE s o = 0 → Inv (doesSt s o) (fun k => if 64 * o.ob ≤ k ∧ k < 64 * o.ob + s.np then none else was k)) ∧
    (o.od = 1 → ¬ doesE s o = 0 → Inv (doesSt s o) was) ∧
    (¬ o.od = 0 → ¬ o.od = 1 → Inv (doesSt s o) was) := by
  refine ⟨fun h0 hl => ?_, fun h0 hl => ?_, fun h1 => (inv_erase hC hev o h1 was hI).1, fun h1 => (inv_erase hC hev o h1 was hI).2, fun h0 h1 => inv_else h0 h1 hI⟩
  · rcases inv_prog hC hev o h0 was hI with h | ⟨q1, q2, q3, q4, q5, q6⟩
    · exact h
    · rw [q5] at hl; omega
  · rcases inv_prog hC hev o h0 was hI with h | ⟨q1, q2, q3, q4, q5, q6⟩
    · rw [h.1] at hl; exact absurd rfl hl
    · exact ⟨q1, q2, q3, q4, q6⟩
end Go.Proofs.Ythafcnilhloldaa
