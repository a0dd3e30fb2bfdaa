/-
  Slices of slices of bytes.
-/
import Derived.Test.YtdmnddikcpfmfaaGreatDkFeed
import Derived.Lib.LazyBuf
namespace Go.Proofs.YtdmnddikcpfmfaaGreat
open Go.RowKit
/-- A slice of bytes as a value. -/
structure SR where
  p : Option Addr
  n : Nat
  c : Nat
def srV (x : SR) : Value := .slice x.p x.n x.c
theorem srV_one (l : List SR) : ∀ v ∈ l.map srV, v.oneCell' = true := by
  intro v hv
  obtain ⟨x, _, rfl⟩ := List.mem_map.1 hv
  rfl
theorem infoB : (Tryz.prog.info? 52).map (fun i => (i.zero, i.size, i.bytes)) = some (some (.slice none 0 0), 1, 24) := by kernel_rfl
/-- The slices rs have the bytes Ds. -/
structure EachIn (w : World) (rs : List SR) (Ds : List (List Nat)) : Prop where
  len : rs.length = Ds.length
  each : ∀ (i : Nat) (r : SR) (D : List Nat), rs[i]? = some r → Ds[i]? = some D → In w r.p r.n r.c D
theorem EachIn.nil (w : World) : EachIn w [] [] := ⟨rfl, fun i r D h => by simp at h⟩
theorem EachIn.below {w w' : World} {rs : List SR} {Ds : List (List Nat)} (h : EachIn w rs Ds) (hb : Below w.heap.size w w') : EachIn w' rs Ds := ⟨h.len, fun i r D h1 h2 => (h.each i r D h1 h2).below hb⟩
theorem EachIn.snoc {w : World} {rs : List SR} {Ds : List (List Nat)} {r : SR} {D : List Nat} (h : EachIn w rs Ds) (hr : In w r.p r.n r.c D) : EachIn w (rs ++ [r]) (Ds ++ [D]) := by
  refine ⟨by simp [h.len], fun i r' D' h1 h2 => ?_⟩
  by_cases hi : i < rs.length
  · rw [List.getElem?_append_left hi] at h1
    rw [List.getElem?_append_left (by rw [← h.len]; exact hi)] at h2
    exact h.each i r' D' h1 h2
  · rw [List.getElem?_append_right (by omega)] at h1
    rw [List.getElem?_append_right (by rw [← h.len]; omega), ← h.len] at h2
    cases hk : i - rs.length with
    | zero =>
      rw [hk] at h1 h2
      simp at h1 h2
      subst h1; subst h2
      exact hr
    | succ k => rw [hk] at h1; simp at h1
theorem EachIn.cellsSame {w w' : World} {rs : List SR} {Ds : List (List Nat)} (h : EachIn w rs Ds) (hs : ∀ (k : Nat) (o : Obj), w.heap[k]? = some o → o.isCells = true → w'.heap[k]? = w.heap[k]?) : EachIn w' rs Ds := ⟨h.len, fun i r D h1 h2 => (h.each i r D h1 h2).cellsSame hs⟩
/-- A slice appended to a slice of slices: the operation. -/
theorem wp_appendB {o : Oper} {a : Act} {w : World} {K : Act → World → Prop} {Q : Exit → Act → World → Prop} (B : Nat) (s x : Operand) (ho : o.op = .call { callee := .builtin .append, args := #[s, x], argTypes := #[45, 45] }) (v : Value) (rs : List SR) (hs : a.eval s = v)
    (hp : w.ownsRow B 52 1 v rs.length (rs.map srV)) (hB : B ≤ w.heap.size) (b o' : Nat) (r : SR) (hx : a.eval x = .slice (some ⟨b, o', none⟩) 1 1) (hnews : w.cell? ⟨b, o', none⟩ = some (srV r)) (hlen : rs.length < 100000)
    (h : ∀ p1 c1 w', w'.ownsRow B 52 1 (.slice p1 (rs.length + 1) c1) (rs.length + 1) ((rs ++ [r]).map srV) → w.grownBy w' v.ownBlock → ((Value.slice p1 (rs.length + 1) c1).ownBlock = v.ownBlock ∨ (Value.slice p1 (rs.length + 1) c1).ownBlock = some w.heap.size) → K (a.put o.dst (.slice p1 (rs.length + 1) c1)) w') : o.wp Tryz.prog a w K Q := by
  obtain ⟨i0, hi, hz0, hz1, hz2⟩ := info_parts infoB
  obtain ⟨v', w', hr, h2, h3, _, h5⟩ := run_append_own_at (P := Tryz.prog) w B 45 o.type 52 i0 _ 1 24 Tryz.underlying45 hi hz0 hz1 hz2 rfl (by decide) v rs.length (rs.map srV) hp ⟨b, o', none⟩ 1 1 [srV r] rfl (fun j u hj => by
      cases j with
      | zero => simp at hj; subst hj; rw [addr_add, Nat.add_zero]; exact hnews
      | succ j => simp at hj) (srV_one [r]) (by unfold maxLen; omega) (by omega) hB
  obtain ⟨p1, c1, rfl⟩ := owns_slice h2
  unfold Oper.wp execOp
  simp only [ho, resolve, invoke, builtin, Sem.run_bind, Sem.run_pure, Result.andThen_ok, List.map_toArray, List.map_cons, List.map_nil, hs, hx, hr]
  exact h p1 c1 w' (by rw [List.map_append]; exact h2) h3 h5
def AllU8 (w : World) (rs : List SR) : Prop := ∀ r ∈ rs, U8 w r.p
theorem AllU8.below {w w' : World} {rs : List SR} (h : AllU8 w rs) (hb : Below w.heap.size w w') : AllU8 w' rs := fun r hr => (h r hr).below hb
theorem EachIn.sameU {w w' : World} {rs : List SR} {Ds : List (List Nat)} (h : EachIn w rs Ds) (_hu : AllU8 w rs) (hs : ∀ r ∈ rs, ∀ a, r.p = some a → w'.heap[a.block]? = w.heap[a.block]?) : EachIn w' rs Ds :=
  ⟨h.len, fun i r D h1 h2 => (h.each i r D h1 h2).same (fun a ha _ => hs r (List.mem_of_getElem? h1) a ha)⟩
/-- A row of slices grew: the bytes lie as they lay. -/
theorem grow_same {w w' : World} {rs : List SR} {B : Nat} {e : TypeId} {z : Nat} {v : Value} {n : Nat} {xs : List Value} (hu : AllU8 w rs) (ho : w.ownsRow B e z v n xs) (ht : e ≠ 5) (hg : w.grownBy w' v.ownBlock) : ∀ r ∈ rs, ∀ a, r.p = some a → w'.heap[a.block]? = w.heap[a.block]? := by
  intro r hr a ha
  obtain ⟨c, hc⟩ := hu r hr a ha
  exact hg.block _ (Array.getElem?_eq_some_iff.1 hc).1 (fun e => (hu r hr).ne_row ha ho ht e.symm)
theorem set_same {w : World} {rs : List SR} (hu : AllU8 w rs) {g : Nat} {t : TypeId} {cs : List Value} (hb : Blk w g t cs) (ht : t ≠ 5) (i : Nat) (u : Value) : ∀ r ∈ rs, ∀ a, r.p = some a → (w.setCell ⟨g, i, none⟩ u).heap[a.block]? = w.heap[a.block]? :=
  fun r hr _ ha => heap_setCell_other _ _ _ _ ((hu r hr).ne ha hb ht)
theorem AllU8.same {w w' : World} {rs : List SR} (h : AllU8 w rs) (hs : ∀ r ∈ rs, ∀ a, r.p = some a → w'.heap[a.block]? = w.heap[a.block]?) : AllU8 w' rs := fun r hr => (h r hr).same (hs r hr)
theorem AllU8.snoc {w : World} {rs : List SR} {r : SR} (h : AllU8 w rs) (hr : U8 w r.p) : AllU8 w (rs ++ [r]) := fun x hx => by
  rcases List.mem_append.1 hx with h' | h'
  · exact h x h'
  · rw [List.mem_singleton.1 h']; exact hr
end Go.Proofs.YtdmnddikcpfmfaaGreat
