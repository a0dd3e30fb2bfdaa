/-
  The buffers of a cache as cells and as plain things; the map by which they are found.
-/
import Derived.Test.YtdmnddikcpfmfaaCkU8
import Derived.Test.YtdmnddikcpfmfaaCkRing
import Derived.Maps.OwnSet
namespace Go.Proofs.Ytdmnddikcpfmfaa
open Go.RowKit Go.Maps
/-- A buffer, plain: its block, its bytes, its class (0: clean), its pins. -/
structure BP where
  k : Nat
  D : List Nat
  cl : Nat
  pins : Nat
/-- A buffer and where it and its bytes lie. -/
structure BufS where
  g : Nat
  p : Option Addr
  cap : Nat
  b : BP
def bufV (x : BufS) (o n : Nat) : List Value := [.int .i64 (x.b.k : Int), .slice x.p x.b.D.length x.cap, .int .i64 (x.b.cl : Int), .int .i64 (x.b.pins : Int), .pointer (some ⟨o, 0, none⟩), .pointer (some ⟨n, 0, none⟩)]
/-- The ring's two ends. -/
def ebuf (e : Nat) : BufS := ⟨e, none, 0, ⟨0, [], 0, 0⟩⟩
def Mem (w : World) (A : List BufS) (O N : Nat → Nat) : Prop := ∀ x ∈ A, Blk w x.g 74 (bufV x (O x.g) (N x.g))
theorem Mem.old {w : World} {A : List BufS} {O N : Nat → Nat} (h : Mem w A O N) (y v : Nat) : Mem (w.setCell ⟨y, 4, none⟩ (.pointer (some ⟨v, 0, none⟩))) A (upd O y v) N := by
  intro x hx
  by_cases e : x.g = y
  · subst e
    rw [upd_same]
    exact (h x hx).set 4 _
  · rw [upd_other _ e]
    exact (h x hx).setOther _ _ e
theorem Mem.new {w : World} {A : List BufS} {O N : Nat → Nat} (h : Mem w A O N) (y v : Nat) : Mem (w.setCell ⟨y, 5, none⟩ (.pointer (some ⟨v, 0, none⟩))) A O (upd N y v) := by
  intro x hx
  by_cases e : x.g = y
  · subst e
    rw [upd_same]
    exact (h x hx).set 5 _
  · rw [upd_other _ e]
    exact (h x hx).setOther _ _ e
theorem Mem.sub {w : World} {A B : List BufS} {O N : Nat → Nat} (h : Mem w A O N) (hs : ∀ x ∈ B, x ∈ A) : Mem w B O N := fun x hx => h x (hs x hx)
theorem Mem.same {w w' : World} {A : List BufS} {O N : Nat → Nat} (h : Mem w A O N) (hs : ∀ x ∈ A, w'.heap[x.g]? = w.heap[x.g]?) : Mem w' A O N := fun x hx => (h x hx).same (hs x hx)
/-- A field of one buffer is turned. -/
theorem Mem.field {w : World} {A B : List BufS} {O N : Nat → Nat} (h : Mem w A O N) {x x' : BufS} (hx : x ∈ A) (i : Nat) (v : Value) (hg : x'.g = x.g) (hv : ∀ o n, (bufV x o n).set i v = bufV x' o n) (hB : ∀ y ∈ B, y = x' ∨ (y ∈ A ∧ y.g ≠ x.g)) : Mem (w.setCell ⟨x.g, i, none⟩ v) B O N := by
  intro y hy
  rcases hB y hy with rfl | ⟨hy, hne⟩
  · rw [hg, ← hv]
    exact (h x hx).set i v
  · exact (h y hy).setOther _ _ hne
/-- How a pointer to a buffer reads in the map. -/
def ptrElem (v : Value) : Option (DataW Unit × List MemPlace) :=
  match v with
  | .pointer none => some (.nil, [])
  | .pointer (some ⟨g, 0, none⟩) => some (.lit (.int .i64 (g : Int)), [])
  | _ => none
theorem ptrElem_none : ptrElem (.pointer none) = some (.nil, []) := rfl
theorem ptrElem_some (g : Nat) : ptrElem (.pointer (some ⟨g, 0, none⟩)) = some (.lit (.int .i64 (g : Int)), []) := rfl
theorem ptrElem_inv {v : Value} {z : DataW Unit × List MemPlace} (h : ptrElem v = some z) : (v = .pointer none ∧ z.1 = .nil) ∨ ∃ g : Nat, v = .pointer (some ⟨g, 0, none⟩) ∧ z.1 = .lit (.int .i64 (g : Int)) := by
  unfold ptrElem at h
  split at h
  · cases h; exact .inl ⟨rfl, rfl⟩
  · cases h; exact .inr ⟨_, rfl, rfl⟩
  · cases h
structure MapOf (M : DataW Unit) (L : List BufS) : Prop where
  size : Maps.size M = L.length
  yes : ∀ x ∈ L, ∀ z, M.atKey (.int .i64 (x.b.k : Int)) z = .lit (.int .i64 (x.g : Int))
  no : ∀ t : Int, (∀ x ∈ L, (x.b.k : Int) ≠ t) → Maps.has M (.int .i64 t) = false
/-- The map finds just these buffers. -/
def MapIn (w : World) (bm : Nat) (L : List BufS) : Prop := ∃ M : DataW Unit, w.ownsMap Try.prog 3 ptrElem bm L.length M ∧ MapOf M L
theorem lit_inj {a b : Nat} (h : (Lit.int .i64 (a : Int)) = .int .i64 (b : Int)) : a = b := Int.ofNat.inj (Lit.int.inj h).2
theorem dlit_inj {a b : Nat} (h : (DataW.lit (H := Unit) (.int .i64 (a : Int))) = .lit (.int .i64 (b : Int))) : a = b := lit_inj (DataW.lit.inj h)
theorem keyLit_int (t : Int) : WideAt.IsKeyLit (.int .i64 t) := trivial
theorem wf_key {a : Int} (h0 : -100000 ≤ a) (h1 : a ≤ 100000) : (Lit.int .i64 a).wf = true := by
  simp [Lit.wf, IntKind.min, IntKind.max, IntKind.signed, IntKind.bits]
  omega
theorem key_ok {a : Int} (h0 : -100000 ≤ a) (h1 : a ≤ 100000) : keyOf Try.prog 3 (.int .i64 a) = some (.int .i64 a) := keyOf_int_mk Try.underlying3 (wf_key h0 h1)
theorem zeroPtr (w : World) : (zeroValue 57).run Try.prog w = .ok (.pointer none) w := by kernel_rfl
theorem MapIn.lt {w : World} {bm : Nat} {L : List BufS} (h : MapIn w bm L) : bm < w.heap.size := by obtain ⟨M, h, _⟩ := h; exact h.lt
theorem MapIn.obj {w : World} {bm : Nat} {L : List BufS} (h : MapIn w bm L) : ∃ es cl, w.heap[bm]? = some (.map es cl) := by obtain ⟨M, ⟨es, cl, h, _⟩, _⟩ := h; exact ⟨es, cl, h⟩
theorem MapIn.ne {w : World} {bm : Nat} {L : List BufS} (h : MapIn w bm L) {g : Nat} {t : TypeId} {cs : List Value} (hb : Blk w g t cs) : bm ≠ g := by
  rintro rfl
  obtain ⟨es, cl, h⟩ := h.obj
  rw [Blk, h] at hb
  cases hb
theorem MapIn.same {w w' : World} {bm : Nat} {L : List BufS} (h : MapIn w bm L) (hs : w'.heap[bm]? = w.heap[bm]?) : MapIn w' bm L := by
  obtain ⟨M, ⟨es, cl, h, h2⟩, h3⟩ := h
  exact ⟨M, ⟨es, cl, hs.trans h, h2⟩, h3⟩
/-- The same buffers in another order, or with other bytes. -/
theorem MapIn.turn {w : World} {bm : Nat} {L L' : List BufS} (h : MapIn w bm L) (hl : L'.length = L.length) (h1 : ∀ x ∈ L', ∃ y ∈ L, y.g = x.g ∧ y.b.k = x.b.k) (h2 : ∀ x ∈ L, ∃ y ∈ L', y.b.k = x.b.k) : MapIn w bm L' := by
  obtain ⟨M, h, hm⟩ := h
  refine ⟨M, hl ▸ h, ?_⟩
  refine ⟨hm.size.trans hl.symm, fun x hx z => ?_, fun t ht => hm.no t (fun x hx => ?_)⟩
  · obtain ⟨y, hy, e1, e2⟩ := h1 x hx
    rw [← e1, ← e2]
    exact hm.yes y hy z
  · obtain ⟨y, hy, e⟩ := h2 x hx
    rw [← e]
    exact ht y hy
theorem MapIn.made (w : World) : MapIn (w.alloc (.map #[] 0)) w.heap.size [] := ⟨_, World.ownsMap_made w _ _ _, rfl, fun x hx => by simp at hx, fun _ _ => rfl⟩
theorem MapIn.look {w : World} {bm : Nat} {L : List BufS} (h : MapIn w bm L) {x : BufS} (hx : x ∈ L) (hk : x.b.k ≤ 100000) : (Instr.lookup 56 (.map (some bm)) (.int .i64 (x.b.k : Int)) false).run Try.prog w = .ok (.pointer (some ⟨x.g, 0, none⟩)) w := by
  obtain ⟨M, h, hm⟩ := h
  obtain ⟨v, ps, hr, hv⟩ := h.lookup (int_keyed Try.underlying3) Try.underlying56 (zeroPtr w) ptrElem_none (key_ok (a := (x.b.k : Int)) (by omega) (by omega))
  rcases ptrElem_inv hv with ⟨_, e⟩ | ⟨g, rfl, e⟩
  · rw [hm.yes x hx] at e; cases e
  · rw [hm.yes x hx] at e
    rw [hr, dlit_inj e]
theorem MapIn.look_no {w : World} {bm : Nat} {L : List BufS} (h : MapIn w bm L) {k : Nat} (hx : ∀ x ∈ L, x.b.k ≠ k) (hk : k ≤ 100000) : (Instr.lookup 56 (.map (some bm)) (.int .i64 (k : Int)) false).run Try.prog w = .ok (.pointer none) w := by
  obtain ⟨M, h, hm⟩ := h
  obtain ⟨v, ps, hr, hv⟩ := h.lookup (int_keyed Try.underlying3) Try.underlying56 (zeroPtr w) ptrElem_none (key_ok (a := (k : Int)) (by omega) (by omega))
  rw [atKey_of_not_has (hm.no (k : Int) (fun x hx' e => hx x hx' (Int.ofNat.inj e)))] at hv
  rcases ptrElem_inv hv with ⟨rfl, _⟩ | ⟨g, rfl, e⟩
  · exact hr
  · cases e
theorem MapIn.len {w : World} {bm : Nat} {L : List BufS} (h : MapIn w bm L) (ty : TypeId) : (Builtin.len_ #[56] ty #[.map (some bm)]).run Try.prog w = .ok (.int .i64 (L.length : Int)) w := by
  obtain ⟨M, h, hm⟩ := h
  rw [h.len Try.underlying56 ty, hm.size]
theorem MapIn.put {w : World} {bm : Nat} {L : List BufS} (h : MapIn w bm L) {x : BufS} (hx : ∀ y ∈ L, y.b.k ≠ x.b.k) (hk : x.b.k ≤ 100000) (hl : L.length ≤ 100000) : ∃ w', (Instr.mapUpdate 56 (.map (some bm)) (.int .i64 (x.b.k : Int)) (.pointer (some ⟨x.g, 0, none⟩))).run Try.prog w = .ok () w' ∧ MapIn w' bm (L ++ [x]) ∧ w.grownBy w' (some bm) := by
  obtain ⟨M, h, hm⟩ := h
  have ht := h.tidy (int_keyed Try.underlying3)
  have hM := h.isMap
  obtain ⟨w', hr, ho, hg⟩ := h.update (int_keyed Try.underlying3) Try.underlying56 (by unfold maxLen; omega) (key_ok (a := (x.b.k : Int)) (by omega) (by omega)) (ptrElem_some x.g)
  have hno := hm.no (x.b.k : Int) (fun y hy e => hx y hy (Int.ofNat.inj e))
  refine ⟨w', hr, ⟨_, by rw [List.length_append]; exact ho, ?_, fun y hy z => ?_, fun t ht' => ?_⟩, hg⟩
  · rw [size_put ht, hno, List.length_append, hm.size]; rfl
  · rcases List.mem_append.1 hy with hy | hy
    · rw [atKey_put_other (fun e => hx y hy (lit_inj e))]
      exact hm.yes y hy z
    · rw [List.mem_singleton.1 hy]
      exact atKey_put_same hM (keyLit_int _) _ _
  · have hne : (Lit.int .i64 t) ≠ .int .i64 (x.b.k : Int) := fun e => ht' x (by simp) (Lit.int.inj e).2.symm
    rw [has_put_other hne]
    exact hm.no t (fun y hy => ht' y (List.mem_append_left _ hy))
theorem MapIn.drop {w : World} {bm : Nat} {p q : List BufS} {x : BufS} (h : MapIn w bm (p ++ x :: q)) (hx : ∀ y ∈ p ++ q, y.b.k ≠ x.b.k) (hk : x.b.k ≤ 100000) (ty : TypeId) : ∃ w', (Builtin.delete_ #[56, 3] ty #[.map (some bm), .int .i64 (x.b.k : Int)]).run Try.prog w = .ok (.tuple #[]) w' ∧ MapIn w' bm (p ++ q) ∧ w.grownBy w' (some bm) := by
  obtain ⟨M, h, hm⟩ := h
  have ht := h.tidy (int_keyed Try.underlying3)
  obtain ⟨w', hr, ho, hg⟩ := h.drop (int_keyed Try.underlying3) Try.underlying56 (key_ok (a := (x.b.k : Int)) (by omega) (by omega)) ty
  have hy : Maps.has M (.int .i64 (x.b.k : Int)) = true := has_true_of_atKey (hm.yes x (by simp))
  have hs := size_del (k := Lit.int .i64 (x.b.k : Int)) ht
  rw [hy, hm.size] at hs
  have hsz : Maps.size (M.del (.int .i64 (x.b.k : Int))) = (p ++ q).length := by simp at hs ⊢; omega
  refine ⟨w', hr, ⟨_, ?_, hsz, fun y hy z => ?_, fun t ht' => ?_⟩, hg.grown⟩
  · obtain ⟨es, cl, a1, a2, _, a4⟩ := ho
    refine ⟨es, cl, a1, a2, ?_, a4⟩
    rw [← hsz, a4]
    simp [Maps.size, length_sorted]
  · have hy' : y ∈ p ++ x :: q := by simp at hy ⊢; rcases hy with h | h <;> simp [h]
    rw [atKey_del_other (fun e => hx y hy (lit_inj e))]
    exact hm.yes y hy' z
  · by_cases e : t = (x.b.k : Int)
    · rw [e]; exact has_del_same
    · rw [has_del_other (fun h => e (Lit.int.inj h).2)]
      refine hm.no t (fun y hy => ?_)
      simp at hy
      rcases hy with h | rfl | h
      · exact ht' y (by simp [h])
      · exact fun h => e h.symm
      · exact ht' y (by simp [h])
end Go.Proofs.Ytdmnddikcpfmfaa
