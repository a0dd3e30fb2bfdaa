/-
  The law's map of what was written last; its calls.
-/
import Derived.Test.YtdmnddikcpfmfaaCkOneE
namespace Go.Proofs.Ytdmnddikcpfmfaa
open Go.RowKit Go.Maps Go.Shelf
/-- How a slice of bytes reads in the map. -/
def slElem (v : Value) : Option (DataW Unit × List MemPlace) :=
  match v with
  | .slice none 0 0 => some (.nil, [])
  | .slice (some ⟨g, 0, none⟩) 256 256 => some (.lit (.int .i64 (g : Int)), [])
  | _ => none
theorem slElem_none : slElem (.slice none 0 0) = some (.nil, []) := rfl
theorem slElem_some (g : Nat) : slElem (.slice (some ⟨g, 0, none⟩) 256 256) = some (.lit (.int .i64 (g : Int)), []) := rfl
theorem slElem_inv {v : Value} {z : DataW Unit × List MemPlace} (h : slElem v = some z) : (v = .slice none 0 0 ∧ z.1 = .nil) ∨ ∃ g : Nat, v = .slice (some ⟨g, 0, none⟩) 256 256 ∧ z.1 = .lit (.int .i64 (g : Int)) := by
  unfold slElem at h
  split at h
  · cases h; exact .inl ⟨rfl, rfl⟩
  · cases h; exact .inr ⟨_, rfl, rfl⟩
  · cases h
theorem zeroB (w : World) : (zeroValue 35).run Try.prog w = .ok (.slice none 0 0) w := by kernel_rfl
/-- What the map has at a key. -/
def MuAt (w : World) (M : DataW Unit) (t : Int) : Option (List Nat) → Prop
  | none => Maps.has M (.int .i64 t) = false
  | some D => ∃ g : Nat, (∀ z, M.atKey (.int .i64 t) z = .lit (.int .i64 (g : Int))) ∧ In w (some ⟨g, 0, none⟩) 256 256 D ∧ U8 w (some ⟨g, 0, none⟩)
def MuIn (w : World) (mb n : Nat) (mu : Int → Option (List Nat)) : Prop := ∃ M : DataW Unit, w.ownsMap Try.prog 3 slElem mb n M ∧ ∀ t, MuAt w M t (mu t)
theorem MuIn.lt {w : World} {mb n : Nat} {mu : Int → Option (List Nat)} (h : MuIn w mb n mu) : mb < w.heap.size := by obtain ⟨M, h, _⟩ := h; exact h.lt
theorem MuIn.obj {w : World} {mb n : Nat} {mu : Int → Option (List Nat)} (h : MuIn w mb n mu) : ∃ es cl, w.heap[mb]? = some (.map es cl) := by obtain ⟨M, ⟨es, cl, h, _⟩, _⟩ := h; exact ⟨es, cl, h⟩
theorem MuIn.made (w : World) : MuIn (w.alloc (.map #[] 0)) w.heap.size 0 (fun _ => none) := ⟨_, World.ownsMap_made w _ _ _, fun _ => rfl⟩
theorem MuIn.same {w w' : World} {mb n : Nat} {mu : Int → Option (List Nat)} (h : MuIn w mb n mu) (h1 : w'.heap[mb]? = w.heap[mb]?) (h2 : ∀ (k : Nat) (cs : Array Value), w.heap[k]? = some (.cells cs 5 (0, 0)) → w'.heap[k]? = w.heap[k]?) : MuIn w' mb n mu := by
  obtain ⟨M, ⟨es, cl, ho, h3⟩, hat⟩ := h
  refine ⟨M, ⟨es, cl, h1.trans ho, h3⟩, fun t => ?_⟩
  have ht := hat t
  cases hm : mu t with
  | none => rw [hm] at ht; exact ht
  | some D =>
    rw [hm] at ht
    obtain ⟨g, e1, e2, e3⟩ := ht
    obtain ⟨cs, hc⟩ := e3 _ rfl
    have hs := h2 g cs hc
    exact ⟨g, e1, e2.same (fun a ha _ => by cases ha; exact hs), e3.same (fun a ha => by cases ha; exact hs)⟩
theorem MuIn.kept {w w' : World} {mb n : Nat} {mu : Int → Option (List Nat)} (h : MuIn w mb n mu) (hb : Below w.heap.size w w') : MuIn w' mb n mu := h.same (hb.block _ h.lt) (fun k _ hc => hb.block k (Array.getElem?_eq_some_iff.1 hc).1)
theorem MuIn.next {w w' : World} {s s' : CS} {mb n : Nat} {mu : Int → Option (List Nat)} (h : MuIn w mb n mu) (hC : CIn w s) (hA : CAfter w w' s s') (hmb : ¬ fpC s mb) : MuIn w' mb n mu ∧ ¬ fpC s' mb := by
  refine ⟨h.same (hA.keep.block _ h.lt hmb) (fun k cs hc => hA.keep.block k (Array.getElem?_eq_some_iff.1 hc).1 (hC.apart (cs := cs.toList) (t := 5) hc (by decide) (by decide) (by decide) (by decide))), fun e => ?_⟩
  rcases hA.fr _ e with e | e
  · exact hmb e
  · have := h.lt; omega
theorem wf_i64b {a : Int} (h : -9223372036854775808 ≤ a ∧ a ≤ 9223372036854775807) : (Lit.int .i64 a).wf = true := by
  simp [Lit.wf, IntKind.min, IntKind.max, IntKind.signed, IntKind.bits]
  omega
theorem MuIn.look {w : World} {mb n : Nat} {mu : Int → Option (List Nat)} (h : MuIn w mb n mu) {t : Int} (ht : -9223372036854775808 ≤ t ∧ t ≤ 9223372036854775807) :
    ∃ v, (Instr.lookup 31 (.map (some mb)) (.int .i64 t) true).run Try.prog w = .ok (.tuple #[v, .bool (mu t).isSome]) w ∧ ((mu t = none ∧ v = .slice none 0 0) ∨ ∃ D g, mu t = some D ∧ v = .slice (some ⟨g, 0, none⟩) 256 256 ∧ In w (some ⟨g, 0, none⟩) 256 256 D ∧ U8 w (some ⟨g, 0, none⟩)) := by
  obtain ⟨M, ho, hat⟩ := h
  obtain ⟨v, ps, hr, hv⟩ := ho.look_ok (int_keyed Try.underlying3) Try.underlying31 (zeroB w) slElem_none (keyOf_int_mk Try.underlying3 (wf_i64b ht))
  have hm := hat t
  cases hmu : mu t with
  | none =>
    rw [hmu] at hm
    have hf : Maps.has M (.int .i64 t) = false := hm
    rw [hf] at hr
    rw [atKey_of_not_has hf] at hv
    refine ⟨v, hr, .inl ⟨rfl, ?_⟩⟩
    rcases slElem_inv hv with ⟨e, _⟩ | ⟨g, _, e⟩
    · exact e
    · cases e
  | some D =>
    rw [hmu] at hm
    obtain ⟨g, e1, e2, e3⟩ := hm
    rw [has_true_of_atKey e1] at hr
    rw [e1] at hv
    refine ⟨v, hr, .inr ⟨D, g, rfl, ?_, e2, e3⟩⟩
    rcases slElem_inv hv with ⟨_, e⟩ | ⟨g', e, e'⟩
    · cases e
    · rw [e, dlit_inj e']
theorem MuIn.put {w : World} {mb n : Nat} {mu : Int → Option (List Nat)} (h : MuIn w mb n mu) (hn : n ≤ 100000) {t : Int} (ht : -9223372036854775808 ≤ t ∧ t ≤ 9223372036854775807) {g : Nat} {D : List Nat} (hD : In w (some ⟨g, 0, none⟩) 256 256 D) (hU : U8 w (some ⟨g, 0, none⟩)) :
    ∃ w', (Instr.mapUpdate 31 (.map (some mb)) (.int .i64 t) (.slice (some ⟨g, 0, none⟩) 256 256)).run Try.prog w = .ok () w' ∧ MuIn w' mb (n + 1) (fun x => if x = t then some D else mu x) ∧ w.grownBy w' (some mb) := by
  obtain ⟨M, ho, hat⟩ := h
  have hM := ho.isMap
  obtain ⟨es, cl, hob, _⟩ := ho
  obtain ⟨w', hr, ho', hg⟩ := (show w.ownsMap Try.prog 3 slElem mb n M from ⟨es, cl, hob, by assumption⟩).update (int_keyed Try.underlying3) Try.underlying31 (by unfold maxLen; omega) (keyOf_int_mk Try.underlying3 (wf_i64b ht)) (slElem_some g)
  have hs : ∀ (k : Nat) (cs : Array Value), w.heap[k]? = some (.cells cs 5 (0, 0)) → w'.heap[k]? = w.heap[k]? := fun k cs hc => hg.block k (Array.getElem?_eq_some_iff.1 hc).1 (fun e => by
    rw [Option.some.inj e, hob] at hc; cases hc)
  refine ⟨w', hr, ⟨_, ho', fun x => ?_⟩, hg⟩
  by_cases e : x = t
  · subst e
    show MuAt w' _ _ (if x = x then some D else mu x)
    rw [if_pos rfl]
    obtain ⟨cs, hc⟩ := hU _ rfl
    exact ⟨g, fun z => atKey_put_same hM (keyLit_int _) _ _, hD.same (fun a ha _ => by cases ha; exact hs g cs hc), hU.same (fun a ha => by cases ha; exact hs g cs hc)⟩
  · show MuAt w' _ _ (if x = t then some D else mu x)
    rw [if_neg e]
    have hne : (Lit.int .i64 x) ≠ .int .i64 t := fun h => e (Lit.int.inj h).2
    have hm := hat x
    cases hmu : mu x with
    | none =>
      rw [hmu] at hm
      show Maps.has _ _ = false
      rw [has_put_other hne]; exact hm
    | some D' =>
      rw [hmu] at hm
      obtain ⟨g', e1, e2, e3⟩ := hm
      obtain ⟨cs, hc⟩ := e3 _ rfl
      exact ⟨g', fun z => by rw [atKey_put_other hne]; exact e1 z, e2.same (fun a ha _ => by cases ha; exact hs g' cs hc), e3.same (fun a ha => by cases ha; exact hs g' cs hc)⟩
/-- The map was written to, the cache was not. -/
theorem CIn.mapped2 {w w' : World} {s : CS} {mb n : Nat} {mu : Int → Option (List Nat)} (h : CIn w s) (hm : MuIn w mb n mu) (hmb : ¬ fpC s mb) (hg : w.grownBy w' (some mb)) : CIn w' s := by
  obtain ⟨es, cl, ho⟩ := hm.obj
  refine h.same fun k hk => hg.block k (h.ltAll hk) (fun e => ?_)
  have e' := Option.some.inj e
  subst e'
  rcases hk with hk | hk | ⟨x, hx, a, ha, hk⟩
  · have := h.base.cc
    rw [← hk, Blk, ho] at this; cases this
  · exact hmb hk
  · obtain ⟨cs, hc⟩ := (h.base.dat x hx).2 a ha
    rw [hk, ho] at hc; cases hc
/-- A call of the law's. -/
structure CallA where
  d : Int
  b : Int
  f : Nat
  c : Int
  q : Option Addr
  m : Nat
  cp : Nat
  cut : Int
  xs : List Int
structure CallsSrc (w : World) (p : Option Addr) (n c : Nat) (os : List CallA) : Prop where
  len : os.length = n
  cap : n ≤ c
  at' : 0 < n → ∃ b o, p = some ⟨b, o, none⟩ ∧ b < w.heap.size ∧ ∀ (i : Nat) (x : CallA), os[i]? = some x → w.rangeAt b (o + i * 6) [.int .i64 x.d, .int .i64 x.b, .int .u8 (x.f : Int), .int .i64 x.c, .slice x.q x.m x.cp, .int .i64 x.cut]
  ints : ∀ x ∈ os, InI w x.q x.m x.cp x.xs
  rg : ∀ x ∈ os, (-9223372036854775808 ≤ x.b ∧ x.b ≤ 9223372036854775807) ∧ x.f < 256
theorem CallsSrc.below {w w' : World} {p : Option Addr} {n c : Nat} {os : List CallA} (h : CallsSrc w p n c os) (hb : Below w.heap.size w w') : CallsSrc w' p n c os :=
  ⟨h.len, h.cap, fun h0 => by
    obtain ⟨b, o, hp, hlt, hc⟩ := h.at' h0
    exact ⟨b, o, hp, Nat.lt_of_lt_of_le hlt hb.size, fun i x hx j v hv => (hb.cell (p := ⟨b, _, none⟩) hlt).trans (hc i x hx j v hv)⟩, fun x hx => (h.ints x hx).below hb, h.rg⟩
end Go.Proofs.Ytdmnddikcpfmfaa
