/-
  The buffers of a cache as cells and as plain things; the map by which they are found.
-/
import Derived.Test.YtdmnddikcpfmfaaGreatCkU8
import Derived.Test.YtdmnddikcpfmfaaGreatDkRSet
import Derived.Maps.OwnSet
namespace Go.Proofs.YtdmnddikcpfmfaaGreat
open Go.RowKit Go.Maps
/-- A buffer, plain: its block, its bytes, its class (0: clean), its pins. -/
structure BP where
  k : Nat
  D : List Nat
  cl : Nat
  pins : Nat
/-- A buffer and where it and its bytes lie. -/
structure BufS where
  g : Nat
  p : Option Addr
  cap : Nat
  b : BP
def bufV (x : BufS) (o n : Nat) : List Value := [.int .i64 (x.b.k : Int), .slice x.p x.b.D.length x.cap, .int .i64 (x.b.cl : Int), .int .i64 (x.b.pins : Int), .pointer (some ⟨o, 0, none⟩), .pointer (some ⟨n, 0, none⟩)]
/-- The ring's two ends. -/
def ebuf (e : Nat) : BufS := ⟨e, none, 0, ⟨0, [], 0, 0⟩⟩
def Mem (w : World) (A : List BufS) (O N : Nat → Nat) : Prop := ∀ x ∈ A, Blk w x.g 97 (bufV x (O x.g) (N x.g))
theorem Mem.old {w : World} {A : List BufS} {O N : Nat → Nat} (h : Mem w A O N) (y v : Nat) : Mem (w.setCell ⟨y, 4, none⟩ (.pointer (some ⟨v, 0, none⟩))) A (upd O y v) N := by
  intro x hx
  by_cases e : x.g = y
  · subst e
    rw [upd_same]
    exact (h x hx).set 4 _
  · rw [upd_other _ e]
    exact (h x hx).setOther _ _ e
theorem Mem.new {w : World} {A : List BufS} {O N : Nat → Nat} (h : Mem w A O N) (y v : Nat) : Mem (w.setCell ⟨y, 5, none⟩ (.pointer (some ⟨v, 0, none⟩))) A O (upd N y v) := by
  intro x hx
  by_cases e : x.g = y
  · subst e
    rw [upd_same]
    exact (h x hx).set 5 _
  · rw [upd_other _ e]
    exact (h x hx).setOther _ _ e
theorem Mem.sub {w : World} {A B : List BufS} {O N : Nat → Nat} (h : Mem w A O N) (hs : ∀ x ∈ B, x ∈ A) : Mem w B O N := fun x hx => h x (hs x hx)
theorem Mem.same {w w' : World} {A : List BufS} {O N : Nat → Nat} (h : Mem w A O N) (hs : ∀ x ∈ A, w'.heap[x.g]? = w.heap[x.g]?) : Mem w' A O N := fun x hx => (h x hx).same (hs x hx)
/-- A field of one buffer is turned. -/
theorem Mem.field {w : World} {A B : List BufS} {O N : Nat → Nat} (h : Mem w A O N) {x x' : BufS} (hx : x ∈ A) (i : Nat) (v : Value) (hg : x'.g = x.g) (hv : ∀ o n, (bufV x o n).set i v = bufV x' o n) (hB : ∀ y ∈ B, y = x' ∨ (y ∈ A ∧ y.g ≠ x.g)) : Mem (w.setCell ⟨x.g, i, none⟩ v) B O N := by
  intro y hy
  rcases hB y hy with rfl | ⟨hy, hne⟩
  · rw [hg, ← hv]
    exact (h x hx).set i v
  · exact (h y hy).setOther _ _ hne
/-- How a pointer to a buffer reads in the map. -/
def ptrElem (v : Value) : Option (DataW Unit × List MemPlace) :=
  match v with
  | .pointer none => some (.nil, [])
  | .pointer (some ⟨g, 0, none⟩) => some (.lit (.int .i64 (g : Int)), [])
  | _ => none
theorem ptrElem_none : ptrElem (.pointer none) = some (.nil, []) := rfl
theorem ptrElem_some (g : Nat) : ptrElem (.pointer (some ⟨g, 0, none⟩)) = some (.lit (.int .i64 (g : Int)), []) := rfl
theorem ptrElem_inv {v : Value} {z : DataW Unit × List MemPlace} (h : ptrElem v = some z) : (v = .pointer none ∧ z.1 = .nil) ∨ ∃ g : Nat, v = .pointer (some ⟨g, 0, none⟩) ∧ z.1 = .lit (.int .i64 (g : Int)) := by
  unfold ptrElem at h
  split at h
  · cases h; exact .inl ⟨rfl, rfl⟩
  · cases h; exact .inr ⟨_, rfl, rfl⟩
  · cases h
structure MapOf (M : DataW Unit) (L : List BufS) : Prop where
  size : Maps.size M = L.length
  yes : ∀ x ∈ L, ∀ z, M.atKey (.int .i64 (x.b.k : Int)) z = .lit (.int .i64 (x.g : Int))
  no : ∀ t : Int, (∀ x ∈ L, (x.b.k : Int) ≠ t) → Maps.has M (.int .i64 t) = false
/-- The map finds just these buffers. -/
def MapIn (w : World) (bm : Nat) (L : List BufS) : Prop := ∃ M : DataW Unit, w.ownsMap Tryz.prog 3 ptrElem bm L.length M ∧ MapOf M L
theorem lit_inj {a b : Nat} (h : (Lit.int .i64 (a : Int)) = .int .i64 (b : Int)) : a = b := Int.ofNat.inj (Lit.int.inj h).2
theorem dlit_inj {a b : Nat} (h : (DataW.lit (H := Unit) (.int .i64 (a : Int))) = .lit (.int .i64 (b : Int))) : a = b := lit_inj (DataW.lit.inj h)
theorem keyLit_int (t : Int) : WideAt.IsKeyLit (.int .i64 t) := trivial
theorem wf_key {a : Int} (h0 : -100000 ≤ a) (h1 : a ≤ 100000) : (Lit.int .i64 a).wf = true := by
  simp [Lit.wf, IntKind.min, IntKind.max, IntKind.signed, IntKind.bits]
  omega
theorem key_ok {a : Int} (h0 : -100000 ≤ a) (h1 : a ≤ 100000) : keyOf Tryz.prog 3 (.int .i64 a) = some (.int .i64 a) := keyOf_int_mk Tryz.underlying3 (wf_key h0 h1)
theorem zeroPtr (w : World) : (zeroValue 71).run Tryz.prog w = .ok (.pointer none) w := by kernel_rfl
theorem MapIn.lt {w : World} {bm : Nat} {L : List BufS} (h : MapIn w bm L) : bm < w.heap.size := by obtain ⟨M, h, _⟩ := h; exact h.lt
theorem MapIn.obj {w : World} {bm : Nat} {L : List BufS} (h : MapIn w bm L) : ∃ es cl, w.heap[bm]? = some (.map es cl) := by obtain ⟨M, ⟨es, cl, h, _⟩, _⟩ := h; exact ⟨es, cl, h⟩
theorem MapIn.ne {w : World} {bm : Nat} {L : List BufS} (h : MapIn w bm L) {g : Nat} {t : TypeId} {cs : List Value} (hb : Blk w g t cs) : bm ≠ g := by
  rintro rfl
  obtain ⟨es, cl, h⟩ := h.obj
  rw [Blk, h] at hb
  cases hb
theorem MapIn.same {w w' : World} {bm : Nat} {L : List BufS} (h : MapIn w bm L) (hs : w'.heap[bm]? = w.heap[bm]?) : MapIn w' bm L := by
  obtain ⟨M, ⟨es, cl, h, h2⟩, h3⟩ := h
  exact ⟨M, ⟨es, cl, hs.trans h, h2⟩, h3⟩
/-- The same buffers in another order, or with other bytes. -/
theorem MapIn.turn {w : World} {bm : Nat} {L L' : List BufS} (h : MapIn w bm L) (hl : L'.length = L.length) (h1 : ∀ x ∈ L', ∃ y ∈ L, y.g = x.g ∧ y.b.k = x.b.k) (h2 : ∀ x ∈ L, ∃ y ∈ L', y.b.k = x.b.k) : MapIn w bm L' := by
  obtain ⟨M, h, hm⟩ := h
  refine ⟨M, hl ▸ h, ?_⟩
  refine ⟨hm.size.trans hl.symm, fun x hx z => ?_, fun t ht => hm.no t (fun x hx => ?_)⟩
  · obtain ⟨y, hy, e1, e2⟩ := h1 x hx
    rw [← e1, ← e2]
    exact hm.yes y hy z
  · obtain ⟨y, hy, e⟩ := h2 x hx
    rw [← e]
    exact ht y hy
theorem MapIn.made (w : World) : MapIn (w.alloc (.map #[] 0)) w.heap.size [] := ⟨_, World.ownsMap_made w _ _ _, rfl, fun x hx => by simp at hx, fun _ _ => rfl⟩
theorem MapIn.look {w : World} {bm : Nat} {L : List BufS} (h : MapIn w bm L) {x : BufS} (hx : x ∈ L) (hk : x.b.k ≤ 100000) : (Instr.lookup 70 (.map (some bm)) (.int .i64 (x.b.k : Int)) false).run Tryz.prog w = .ok (.pointer (some ⟨x.g, 0, none⟩)) w := by
  obtain ⟨M, h, hm⟩ := h
  obtain ⟨v, ps, hr, hv⟩ := h.lookup (int_keyed Tryz.underlying3) Tryz.underlying70 (zeroPtr w) ptrElem_none (key_ok (a := (x.b.k : Int)) (by omega) (by omega))
  rcases ptrElem_inv hv with ⟨_, e⟩ | ⟨g, rfl, e⟩
  · rw [hm.yes x hx] at e; cases e
  · rw [hm.yes x hx] at e
    rw [hr, dlit_inj e]
theorem MapIn.look_no {w : World} {bm : Nat} {L : List BufS} (h : MapIn w bm L) {k : Nat} (hx : ∀ x ∈ L, x.b.k ≠ k) (hk : k ≤ 100000) : (Instr.lookup 70 (.map (some bm)) (.int .i64 (k : Int)) false).run Tryz.prog w = .ok (.pointer none) w := by
  obtain ⟨M, h, hm⟩ := h
  obtain ⟨v, ps, hr, hv⟩ := h.lookup (int_keyed Tryz.underlying3) Tryz.underlying70 (zeroPtr w) ptrElem_none (key_ok (a := (k : Int)) (by omega) (by omega))
  rw [atKey_of_not_has (hm.no (k : Int) (fun x hx' e => hx x hx' (Int.ofNat.inj e)))] at hv
  rcases ptrElem_inv hv with ⟨rfl, _⟩ | ⟨g, rfl, e⟩
  · exact hr
  · cases e
theorem MapIn.len {w : World} {bm : Nat} {L : List BufS} (h : MapIn w bm L) (ty : TypeId) : (Builtin.len_ #[70] ty #[.map (some bm)]).run Tryz.prog w = .ok (.int .i64 (L.length : Int)) w := by
  obtain ⟨M, h, hm⟩ := h
  rw [h.len Tryz.underlying70 ty, hm.size]
theorem MapIn.put {w : World} {bm : Nat} {L : List BufS} (h : MapIn w bm L) {x : BufS} (hx : ∀ y ∈ L, y.b.k ≠ x.b.k) (hk : x.b.k ≤ 100000) (hl : L.length ≤ 100000) : ∃ w', (Instr.mapUpdate 70 (.map (some bm)) (.int .i64 (x.b.k : Int)) (.pointer (some ⟨x.g, 0, none⟩))).run Tryz.prog w = .ok () w' ∧ MapIn w' bm (L ++ [x]) ∧ w.grownBy w' (some bm) := by
  obtain ⟨M, h, hm⟩ := h
  have ht := h.tidy (int_keyed Tryz.underlying3)
  have hM := h.isMap
  obtain ⟨w', hr, ho, hg⟩ := h.update (int_keyed Tryz.underlying3) Tryz.underlying70 (by unfold maxLen; omega) (key_ok (a := (x.b.k : Int)) (by omega) (by omega)) (ptrElem_some x.g)
  have hno := hm.no (x.b.k : Int) (fun y hy e => hx y hy (Int.ofNat.inj e))
  refine ⟨w', hr, ⟨_, by rw [List.length_append]; exact ho, ?_, fun y hy z => ?_, fun t ht' => ?_⟩, hg⟩
  · rw [size_put ht, hno, List.length_append, hm.size]; rfl
  · rcases List.mem_append.1 hy with hy | hy
    · rw [atKey_put_other (fun e => hx y hy (lit_inj e))]
      exact hm.yes y hy z
    · rw [List.mem_singleton.1 hy]
      exact atKey_put_same hM (keyLit_int _) _ _
  · have hne : (Lit.int .i64 t) ≠ .int .i64 (x.b.k : Int) := fun e => ht' x (by simp) (Lit.int.inj e).2.symm
    rw [has_put_other hne]
    exact hm.no t (fun y hy => ht' y (List.mem_append_left _ hy))
theorem MapIn.drop {w : World} {bm : Nat} {p q : List BufS} {x : BufS} (h : MapIn w bm (p ++ x :: q)) (hx : ∀ y ∈ p ++ q, y.b.k ≠ x.b.k) (hk : x.b.k ≤ 100000) (ty : TypeId) : ∃ w', (Builtin.delete_ #[70, 3] ty #[.map (some bm), .int .i64 (x.b.k : Int)]).run Tryz.prog w = .ok (.tuple #[]) w' ∧ MapIn w' bm (p ++ q) ∧ w.grownBy w' (some bm) := by
  obtain ⟨M, h, hm⟩ := h
  have ht := h.tidy (int_keyed Tryz.underlying3)
  obtain ⟨w', hr, ho, hg⟩ := h.drop (int_keyed Tryz.underlying3) Tryz.underlying70 (key_ok (a := (x.b.k : Int)) (by omega) (by omega)) ty
  have hy : Maps.has M (.int .i64 (x.b.k : Int)) = true := has_true_of_atKey (hm.yes x (by simp))
  have hs := size_del (k := Lit.int .i64 (x.b.k : Int)) ht
  rw [hy, hm.size] at hs
  have hsz : Maps.size (M.del (.int .i64 (x.b.k : Int))) = (p ++ q).length := by simp at hs ⊢; omega
  refine ⟨w', hr, ⟨_, ?_, hsz, fun y hy z => ?_, fun t ht' => ?_⟩, hg.grown⟩
  · obtain ⟨es, cl, a1, a2, _, a4⟩ := ho
    refine ⟨es, cl, a1, a2, ?_, a4⟩
    rw [← hsz, a4]
    simp [Maps.size, length_sorted]
  · have hy' : y ∈ p ++ x :: q := by simp at hy ⊢; rcases hy with h | h <;> simp [h]
    rw [atKey_del_other (fun e => hx y hy (lit_inj e))]
    exact hm.yes y hy' z
  · by_cases e : t = (x.b.k : Int)
    · rw [e]; exact has_del_same
    · rw [has_del_other (fun h => e (Lit.int.inj h).2)]
      refine hm.no t (fun y hy => ?_)
      simp at hy
      rcases hy with h | rfl | h
      · exact ht' y (by simp [h])
      · exact fun h => e h.symm
      · exact ht' y (by simp [h])
end Go.Proofs.YtdmnddikcpfmfaaGreat

namespace Go.Proofs.YtdmnddikcpfmfaaGreat
open Go.RowKit Go.Maps
/-- A cache and its disk. -/
structure CS where
  d : Nat
  sb : Nat
  lv : Value
  ds : DS
  c : Nat
  e : Nat
  bm : Nat
  room : Nat
  L : List BufS
  O : Nat → Nat
  N : Nat → Nat
def CS.P (s : CS) : List BP := s.L.map (·.b)
def CS.gs (s : CS) : List Nat := s.L.map (·.g)
def cacheV (s : CS) : List Value := [ramI s.d, .int .i64 (s.room : Int), .map (some s.bm), .pointer (some ⟨s.e, 0, none⟩)]
/-- All but the buffers themselves. -/
structure CBase (w : World) (s : CS) : Prop where
  cc : Blk w s.c 74 (cacheV s)
  disk : DiskIn w s.d s.sb s.lv s.ds
  dat : ∀ x ∈ s.L, In w x.p x.b.D.length x.cap x.b.D ∧ U8 w x.p
/-- What does not hang on the memory. -/
structure CFit (s : CS) : Prop where
  ring : Chain s.O s.N s.e s.gs s.e
  nd : (s.e :: s.gs).Nodup
  kd : (s.L.map (·.b.k)).Nodup
  r1 : 8 ≤ s.room
  r2 : s.room ≤ 1024
  len : s.L.length ≤ s.room
  ok : ∀ x ∈ s.L, x.b.k < s.ds.secs.length
structure CIn (w : World) (s : CS) : Prop where
  base : CBase w s
  mem : Mem w (ebuf s.e :: s.L) s.O s.N
  map : MapIn w s.bm s.L
  fit : CFit s
/-- The blocks that may be written. -/
def fpC (s : CS) (k : Nat) : Prop := k = s.bm ∨ k = s.e ∨ k ∈ s.gs ∨ fpD s.d s.sb s.lv k
/-- A block of a buffer, or of the ends. -/
def isBuf (w : World) (k : Nat) : Prop := ∃ cs, Blk w k 97 cs
theorem CBase.same {w w' : World} {s : CS} (h : CBase w s) (h1 : w'.heap[s.c]? = w.heap[s.c]?) (h2 : ∀ k, fpD s.d s.sb s.lv k → w'.heap[k]? = w.heap[k]?) (h3 : ∀ x ∈ s.L, ∀ a, x.p = some a → w'.heap[a.block]? = w.heap[a.block]?) : CBase w' s :=
  ⟨h.cc.same h1, h.disk.same h2, fun x hx => ⟨(h.dat x hx).1.same (fun a ha _ => h3 x hx a ha), (h.dat x hx).2.same (h3 x hx)⟩⟩
theorem fpD_buf {w : World} {d sb : Nat} {lv : Value} {ds : DS} (h : DiskIn w d sb lv ds) {k : Nat} (hk : fpD d sb lv k) : ¬ isBuf w k := by
  rintro ⟨cs, hb⟩
  rcases hk with rfl | rfl | hk
  · exact blk_ne h.ram hb (by decide) rfl
  · exact blk_ne h.row hb (by decide) rfl
  · exact owns_ne h.log hk hb (by decide) rfl
/-- Only blocks of buffers were written. -/
theorem CBase.keep {w w' : World} {s : CS} {S : Nat → Prop} (h : CBase w s) (hk : Keep S w w') (hS : ∀ k, S k → isBuf w k) : CBase w' s := by
  refine h.same (hk.block _ h.cc.lt (fun e => ?_)) (fun k hf => hk.block k (h.disk.lt hf) (fun e => fpD_buf h.disk hf (hS k e))) (fun x hx a ha => ?_)
  · obtain ⟨cs, hb⟩ := hS _ e
    exact blk_ne h.cc hb (by decide) rfl
  · obtain ⟨cs, hc⟩ := (h.dat x hx).2 a ha
    refine hk.block _ (Array.getElem?_eq_some_iff.1 hc).1 (fun e => ?_)
    obtain ⟨cs', hb⟩ := hS _ e
    exact (h.dat x hx).2.ne ha hb (by decide) rfl
theorem CBase.kept {w w' : World} {s : CS} (h : CBase w s) (hb : Below w.heap.size w w') : CBase w' s := h.keep (S := fun _ => False) (Keep.of_below hb) (fun _ h => h.elim)
/-- Only a map was written. -/
theorem CBase.mapped {w w' : World} {s : CS} (h : CBase w s) {bm : Nat} {L : List BufS} (hm : MapIn w bm L) (hg : w.grownBy w' (some bm)) : CBase w' s := by
  have hne : ∀ k, k < w.heap.size → k ≠ bm → w'.heap[k]? = w.heap[k]? := fun k hk hn => hg.block k hk (fun e => hn (Option.some.inj e))
  obtain ⟨es, cl, ho⟩ := hm.obj
  refine h.same (hne _ h.cc.lt (fun e => (hm.ne h.cc) e.symm)) (fun k hf => hne k (h.disk.lt hf) ?_) (fun x hx a ha => ?_)
  · rintro rfl
    rcases hf with rfl | rfl | hf
    · exact hm.ne h.disk.ram rfl
    · exact hm.ne h.disk.row rfl
    · obtain ⟨cs, hc, _⟩ := owns_row h.disk.log hf
      rw [ho] at hc; cases hc
  · obtain ⟨cs, hc⟩ := (h.dat x hx).2 a ha
    refine hne _ (Array.getElem?_eq_some_iff.1 hc).1 ?_
    rintro e
    rw [e, ho] at hc; cases hc
theorem CBase.list {w : World} {s : CS} (h : CBase w s) {L' : List BufS} {O' N' : Nat → Nat} (hL : ∀ x ∈ L', In w x.p x.b.D.length x.cap x.b.D ∧ U8 w x.p) : CBase w { s with L := L', O := O', N := N' } := ⟨h.cc, h.disk, hL⟩
theorem Mem.isBuf {w : World} {A : List BufS} {O N : Nat → Nat} (h : Mem w A O N) {k : Nat} (hk : k ∈ A.map (·.g)) : isBuf w k := by
  obtain ⟨x, hx, rfl⟩ := List.mem_map.1 hk
  exact ⟨_, h x hx⟩
theorem CIn.same {w w' : World} {s : CS} (h : CIn w s) (hs : ∀ k, (k = s.c ∨ fpC s k ∨ ∃ x ∈ s.L, ∃ a, x.p = some a ∧ a.block = k) → w'.heap[k]? = w.heap[k]?) : CIn w' s :=
  ⟨h.base.same (hs _ (.inl rfl)) (fun k hk => hs k (.inr (.inl (.inr (.inr (.inr hk)))))) (fun x hx a ha => hs _ (.inr (.inr ⟨x, hx, a, ha, rfl⟩))),
   h.mem.same (fun x hx => hs _ (.inr (.inl (by
    rcases List.mem_cons.1 hx with rfl | hx
    · exact .inr (.inl rfl)
    · exact .inr (.inr (.inl (List.mem_map.2 ⟨x, hx, rfl⟩))))))),
   h.map.same (hs _ (.inr (.inl (.inl rfl)))), h.fit⟩
theorem CIn.lt {w : World} {s : CS} (h : CIn w s) {k : Nat} (hk : fpC s k) : k < w.heap.size := by
  rcases hk with rfl | rfl | hk | hk
  · exact h.map.lt
  · exact (h.mem (ebuf s.e) (List.mem_cons_self ..)).lt
  · obtain ⟨x, hx, rfl⟩ := List.mem_map.1 hk
    exact (h.mem x (List.mem_cons_of_mem _ hx)).lt
  · exact h.base.disk.lt hk
theorem CIn.ltAll {w : World} {s : CS} (h : CIn w s) {k : Nat} (hk : k = s.c ∨ fpC s k ∨ ∃ x ∈ s.L, ∃ a, x.p = some a ∧ a.block = k) : k < w.heap.size := by
  rcases hk with rfl | hk | ⟨x, hx, a, ha, rfl⟩
  · exact h.base.cc.lt
  · exact h.lt hk
  · obtain ⟨cs, hc⟩ := (h.base.dat x hx).2 a ha
    exact (Array.getElem?_eq_some_iff.1 hc).1
theorem CIn.kept {w w' : World} {s : CS} (h : CIn w s) (hb : Below w.heap.size w w') : CIn w' s := h.same fun k hk => hb.block k (h.ltAll hk)
theorem CIn.drewN {w : World} {s : CS} (h : CIn w s) (n : Nat) : CIn (w.drewN n) s := h.same fun _ _ => rfl
/-- The block is none that may be written. -/
theorem CIn.apart {w : World} {s : CS} (h : CIn w s) {g : Nat} {t : TypeId} {cs : List Value} (hb : Blk w g t cs) (h1 : t ≠ 97) (h2 : t ≠ 62) (h3 : t ≠ 102) (h4 : t ≠ 173) : ¬ fpC s g := by
  rintro (rfl | rfl | hk | rfl | rfl | hk)
  · exact h.map.ne hb rfl
  · exact blk_ne (h.mem (ebuf s.e) (List.mem_cons_self ..)) hb (fun e => h1 e.symm) rfl
  · obtain ⟨x, hx, e⟩ := List.mem_map.1 hk
    exact blk_ne (h.mem x (List.mem_cons_of_mem _ hx)) hb (fun e => h1 e.symm) e
  · exact blk_ne h.base.disk.ram hb (fun e => h2 e.symm) rfl
  · exact blk_ne h.base.disk.row hb (fun e => h3 e.symm) rfl
  · exact owns_ne h.base.disk.log hk hb h4 rfl
/-- A call that turned a cache and its disk: their blocks alone, and new ones. -/
structure CAfter (w w' : World) (s s' : CS) : Prop where
  cin : CIn w' s'
  keep : Keep (fpC s) w w'
  fr : ∀ k, fpC s' k → fpC s k ∨ w.heap.size ≤ k
  c : s'.c = s.c
  d : s'.d = s.d
  sb : s'.sb = s.sb
  room : s'.room = s.room
theorem CAfter.refl {w : World} {s : CS} (h : CIn w s) : CAfter w w s s := ⟨h, Keep.refl _ _, fun _ h => .inl h, rfl, rfl, rfl, rfl⟩
theorem CAfter.trans {w w' w'' : World} {s s' s'' : CS} (h : CAfter w w' s s') (k : CAfter w' w'' s' s'') : CAfter w w'' s s'' := by
  refine ⟨k.cin, h.keep.trans k.keep (fun j hj e => ?_), fun j hj => ?_, k.c.trans h.c, k.d.trans h.d, k.sb.trans h.sb, k.room.trans h.room⟩
  · rcases h.fr j e with e | e
    · exact e
    · omega
  · rcases k.fr j hj with e | e
    · exact h.fr j e
    · exact .inr (Nat.le_trans h.keep.size e)
/-- New blocks ahead of the call. -/
theorem CAfter.drop {w w2 w' : World} {s s' : CS} (hb : Below w.heap.size w w2) (h : CAfter w2 w' s s') : CAfter w w' s s' :=
  ⟨h.cin, (Keep.of_below (S := fpC s) hb).trans h.keep (fun _ _ e => e), fun k hk => (h.fr k hk).imp id (Nat.le_trans hb.size), h.c, h.d, h.sb, h.room⟩
/-- New blocks behind the call. -/
theorem CAfter.kept {w w' w2 : World} {s s' : CS} (h : CAfter w w' s s') (hb : Below w'.heap.size w' w2) : CAfter w w2 s s' :=
  ⟨h.cin.kept hb, h.keep.trans (Keep.of_below (S := fpC s) hb) (fun _ _ e => e), h.fr, h.c, h.d, h.sb, h.room⟩
theorem CAfter.belowB {w w' : World} {s s' : CS} {B : Nat} (h : CAfter w w' s s') (hB : B ≤ w.heap.size) (hf : ∀ k, fpC s k → B ≤ k) : Below B w w' := h.keep.below hB hf
theorem CAfter.fp {w w' : World} {s s' : CS} {B : Nat} (h : CAfter w w' s s') (hB : B ≤ w.heap.size) (hf : ∀ k, fpC s k → B ≤ k) : ∀ k, fpC s' k → B ≤ k := by
  intro k hk
  rcases h.fr k hk with e | e
  · exact hf k e
  · omega
/-- The disk was turned. -/
theorem CIn.disked {w w' : World} {s : CS} (h : CIn w s) {lv' : Value} {ds' : DS} (hA : DAfter w w' s.d s.sb s.lv lv' ds') (hl : ds'.secs.length = s.ds.secs.length) : CAfter w w' s { s with lv := lv', ds := ds' } := by
  have hD := h.base.disk
  have hne : ∀ k, (k = s.c ∨ k = s.bm ∨ k = s.e ∨ k ∈ s.gs ∨ ∃ x ∈ s.L, ∃ a, x.p = some a ∧ a.block = k) → w'.heap[k]? = w.heap[k]? := by
    intro k hk
    refine hA.keep.block k ?_ ?_
    · rcases hk with rfl | rfl | rfl | hk | hk
      · exact h.base.cc.lt
      · exact h.map.lt
      · exact h.lt (.inr (.inl rfl))
      · exact h.lt (.inr (.inr (.inl hk)))
      · exact h.ltAll (.inr (.inr hk))
    · intro hf
      rcases hk with rfl | rfl | rfl | hk | ⟨x, hx, a, ha, rfl⟩
      · rcases hf with e | e | e
        · exact blk_ne h.base.cc hD.ram (by decide) e
        · exact blk_ne h.base.cc hD.row (by decide) e
        · exact owns_ne hD.log e h.base.cc (by decide) rfl
      · rcases hf with e | e | e
        · exact h.map.ne hD.ram e
        · exact h.map.ne hD.row e
        · obtain ⟨es, cl, ho⟩ := h.map.obj
          obtain ⟨cs, hc, _⟩ := owns_row hD.log e
          rw [ho] at hc; cases hc
      · exact fpD_buf hD hf ⟨_, h.mem (ebuf s.e) (List.mem_cons_self ..)⟩
      · exact fpD_buf hD hf (h.mem.isBuf (List.mem_cons_of_mem _ hk))
      · rcases hf with e | e | e
        · exact (h.base.dat x hx).2.ne ha hD.ram (by decide) e
        · exact (h.base.dat x hx).2.ne ha hD.row (by decide) e
        · exact (h.base.dat x hx).2.ne_row ha hD.log (by decide) e
  refine ⟨⟨⟨h.base.cc.same (hne _ (.inl rfl)), hA.disk, fun x hx => ⟨(h.base.dat x hx).1.same (fun a ha _ => hne _ (.inr (.inr (.inr (.inr ⟨x, hx, a, ha, rfl⟩))))), (h.base.dat x hx).2.same (fun a ha => hne _ (.inr (.inr (.inr (.inr ⟨x, hx, a, ha, rfl⟩)))))⟩⟩, h.mem.same (fun x hx => ?_), h.map.same (hne _ (.inr (.inl rfl))), ?_⟩, hA.keep.mono (fun k _ e => .inr (.inr (.inr e))), ?_, rfl, rfl, rfl, rfl⟩
  · rcases List.mem_cons.1 hx with rfl | hx
    · exact hne _ (.inr (.inr (.inl rfl)))
    · exact hne _ (.inr (.inr (.inr (.inl (List.mem_map.2 ⟨x, hx, rfl⟩)))))
  · exact ⟨h.fit.ring, h.fit.nd, h.fit.kd, h.fit.r1, h.fit.r2, h.fit.len, fun x hx => by rw [hl]; exact h.fit.ok x hx⟩
  · rintro k (rfl | rfl | hk | rfl | rfl | hk)
    · exact .inl (.inl rfl)
    · exact .inl (.inr (.inl rfl))
    · exact .inl (.inr (.inr (.inl hk)))
    · exact .inl (.inr (.inr (.inr (.inl rfl))))
    · exact .inl (.inr (.inr (.inr (.inr (.inl rfl)))))
    · rcases hA.fr k hk with e | e
      · exact .inl (.inr (.inr (.inr (.inr (.inr e)))))
      · exact .inr e
end Go.Proofs.YtdmnddikcpfmfaaGreat
