/-
  A map from ints to ints that a call made: what it has, read, written, counted.
-/
import Derived.Test.YtmboohadindlfaaXtRQ
import Derived.Maps.OwnOps
import Derived.Maps.OwnSet
import Derived.Maps.Views
namespace Go.Proofs.Ytmboohadindlfaa
open Go.RowKit Go.Maps
/-- How many numbers below K have something. -/
def cntO (f : Int → Option Int) : Nat → Nat
  | 0 => 0
  | k + 1 => cntO f k + (if (f (k : Int)).isSome = true then 1 else 0)
def updO (f : Int → Option Int) (t c : Int) : Int → Option Int := fun y => if y = t then some c else f y
theorem cntO_upd (f : Int → Option Int) (t c : Int) (K : Nat) : cntO (updO f t c) K = cntO f K + (if 0 ≤ t ∧ t < (K : Int) ∧ (f t).isSome = false then 1 else 0) := by
  induction K with
  | zero => simp [cntO]; omega
  | succ K ih =>
    rw [cntO, cntO, ih]
    unfold updO
    by_cases h : (K : Int) = t
    · subst h
      simp only [if_true, Option.isSome_some]
      cases (f (K : Int)).isSome with
      | true => simp
      | false => simp; omega
    · rw [if_neg h]
      by_cases h1 : 0 ≤ t ∧ t < (K : Int) ∧ (f t).isSome = false
      · have h2 : 0 ≤ t ∧ t < ((K + 1 : Nat) : Int) ∧ (f t).isSome = false := ⟨h1.1, by omega, h1.2.2⟩
        rw [if_pos h1, if_pos h2]; omega
      · have h2 : ¬ (0 ≤ t ∧ t < ((K + 1 : Nat) : Int) ∧ (f t).isSome = false) := fun h3 => h1 ⟨h3.1, by omega, h3.2.2⟩
        rw [if_neg h1, if_neg h2]; omega
/-- Block g is a map whose entries are f. -/
def MP (w : World) (g n : Nat) (f : Int → Option Int) : Prop := ∃ D : DataW Unit, w.ownsMap Try.prog 3 (plainElem Try.prog 3) g n D ∧ Maps.size D = cntO f 65536 ∧ (∀ t, Maps.has D (.int .i64 t) = (f t).isSome) ∧ ∀ t c, f t = some c → ∀ z, D.atKey (.int .i64 t) z = .lit (.int .i64 c)
theorem MP.lt {w : World} {g n : Nat} {f : Int → Option Int} (h : MP w g n f) : g < w.heap.size := by obtain ⟨M, h, _⟩ := h; exact h.lt
theorem MP.obj {w : World} {g n : Nat} {f : Int → Option Int} (h : MP w g n f) : ∃ es cl, w.heap[g]? = some (.map es cl) := by obtain ⟨M, ⟨es, cl, h, _⟩, _⟩ := h; exact ⟨es, cl, h⟩
theorem cntO_none (K : Nat) : cntO (fun _ => none) K = 0 := by
  induction K with
  | zero => rfl
  | succ K ih => rw [cntO, ih]; rfl
theorem MP.made (w : World) : MP (w.alloc (.map #[] 0)) w.heap.size 0 (fun _ => none) :=
  ⟨_, World.ownsMap_made w _ _ _, (cntO_none 65536).symm, fun _ => rfl, fun t c h => by cases h⟩
theorem MP.same {w w' : World} {g n : Nat} {f : Int → Option Int} (h : MP w g n f) (h1 : w'.heap[g]? = w.heap[g]?) : MP w' g n f := by
  obtain ⟨M, ⟨es, cl, ho, h3⟩, hat⟩ := h
  exact ⟨M, ⟨es, cl, h1.trans ho, h3⟩, hat⟩
theorem MP.kept {w w' : World} {g n : Nat} {f : Int → Option Int} (h : MP w g n f) (hb : Below w.heap.size w w') : MP w' g n f := h.same (hb.block _ h.lt)
theorem MP.congr {w : World} {g n : Nat} {f f' : Int → Option Int} (h : MP w g n f) (e : ∀ t, f t = f' t) : MP w g n f' := by
  have : f = f' := funext e
  rw [← this]; exact h
theorem wf_i64 {a : Int} (h0 : -1000000 ≤ a) (h1 : a ≤ 1000000) : (Lit.int .i64 a).wf = true := by
  simp [Lit.wf, IntKind.min, IntKind.max, IntKind.signed, IntKind.bits]
  omega
theorem key_ok {a : Int} (h0 : -1000000 ≤ a) (h1 : a ≤ 1000000) : keyOf Try.prog 3 (.int .i64 a) = some (.int .i64 a) := keyOf_int_mk Try.underlying3 (wf_i64 h0 h1)
theorem zero3 (w : World) : (zeroValue 3).run Try.prog w = .ok (.int .i64 0) w := by kernel_rfl
theorem keyLit_int (t : Int) : WideAt.IsKeyLit (.int .i64 t) := trivial
def valO (x : Option Int) : Int := x.getD 0
theorem MP.look {w : World} {g n : Nat} {f : Int → Option Int} (h : MP w g n f) (t : Int) (h0 : -1000000 ≤ t) (h1 : t ≤ 1000000) : (Instr.lookup 49 (.map (some g)) (.int .i64 t) true).run Try.prog w = .ok (.tuple #[.int .i64 (valO (f t)), .bool (f t).isSome]) w := by
  obtain ⟨M, ho, _, hh, hat⟩ := h
  obtain ⟨v, ps, hr, hv⟩ := ho.look_ok (int_keyed Try.underlying3) Try.underlying49 (zero3 w) (plainElem_int Try.underlying3 (wf_i64 (by omega) (by omega))) (key_ok h0 h1)
  obtain ⟨c, rfl, hc, _⟩ := plainElem_int_inv Try.underlying3 hv
  have hc := congrArg Prod.fst hc
  dsimp only at hc
  rw [hr, hh]
  cases hf : f t with
  | none =>
    have hn : Maps.has M (.int .i64 t) = false := by rw [hh, hf]; rfl
    rw [atKey_of_not_has hn] at hc
    have : (0 : Int) = c := by simpa using hc
    rw [← this]; rfl
  | some d =>
    rw [hat t d hf] at hc
    have : d = c := by simpa using hc
    rw [← this]; rfl
theorem MP.len {w : World} {g n : Nat} {f : Int → Option Int} (h : MP w g n f) (ty : TypeId) : (Builtin.len_ #[49] ty #[.map (some g)]).run Try.prog w = .ok (.int .i64 (cntO f 65536 : Nat)) w := by
  obtain ⟨M, ho, hs, _⟩ := h
  rw [ho.len Try.underlying49 ty, hs]
theorem wpList_putM (w : World) {ops : Array Oper} {rest : List Oper} {o : Oper} {a : Act} {Q : Exit → Act → World → Prop} (hg : o.guard = none) (m x v : Operand) (hop : o.op = Op.mapUpdate 49 m x v) (g n : Nat) (f : Int → Option Int)
    (hm : a.eval m = .map (some g)) (hown : MP w g n f) (hn : n ≤ 10000000) (t c : Int) (h0 : 0 ≤ t) (h1 : t < 65536) (c0 : -1000000 ≤ c) (c1 : c ≤ 1000000) (hx : a.eval x = .int .i64 t) (hv : a.eval v = .int .i64 c)
    (hK : ∀ w', MP w' g (n + 1) (updO f t c) → w.grownBy w' (some g) → wpList Try.prog ops Q rest (a.put o.dst undef) w') : wpList Try.prog ops Q (o :: rest) a w := by
  obtain ⟨M, ho, hs, hh, hat⟩ := hown
  have htd := ho.tidy (int_keyed Try.underlying3)
  refine wpList_mapUpdate_own w hg m x v 49 hop 3 3 (int_keyed Try.underlying3) Try.underlying49 (plainElem Try.prog 3) g n M hm ho (by unfold maxLen; omega) _ _ _ hx hv (key_ok (by omega) (by omega)) _ [] (plainElem_int Try.underlying3 (wf_i64 c0 c1)) ?_
  intro w' r1 r2
  refine hK w' ⟨_, r1, ?_, fun y => ?_, fun y d hy z => ?_⟩ r2
  · rw [size_put htd, hh, cntO_upd, hs]
    cases (f t).isSome with
    | true => simp
    | false => rw [if_neg (by decide), if_pos ⟨h0, by omega, rfl⟩]
  · unfold updO
    by_cases e : y = t
    · subst e
      rw [if_pos rfl, has_put_same ho.isMap (keyLit_int _)]; rfl
    · have hne : (Lit.int .i64 y) ≠ .int .i64 t := fun h => e (Lit.int.inj h).2
      rw [if_neg e, has_put_other hne]
      exact hh y
  · unfold updO at hy
    by_cases e : y = t
    · subst e
      rw [if_pos rfl] at hy
      cases hy
      rw [atKey_put_same ho.isMap (keyLit_int _)]
    · have hne : (Lit.int .i64 y) ≠ .int .i64 t := fun h => e (Lit.int.inj h).2
      rw [if_neg e] at hy
      rw [atKey_put_other hne]
      exact hat y d hy z
theorem MP.grown {w w' : World} {g n k : Nat} {f : Int → Option Int} (h : MP w g n f) (hg : w.grownBy w' (some k)) (hne : g ≠ k) : MP w' g n f := h.same (hg.block g h.lt (fun e => hne (by cases e; rfl)))
theorem MP.ne {w : World} {g n k : Nat} {f : Int → Option Int} {t : TypeId} {cs : List Value} (h : MP w g n f) (hb : Blk w k t cs) : g ≠ k := by
  intro e
  obtain ⟨es, cl, ho⟩ := h.obj
  rw [e, show w.heap[k]? = _ from hb] at ho
  cases ho
/-- Where a block stands, by a list. -/
def posL : List Ext → Int → Option Int
  | [], _ => none
  | e :: l, t => if e.lo ≤ t ∧ t < endI e then some (e.ph + (t - e.lo)) else posL l t
theorem posL_mem {l : List Ext} (hd : l.Pairwise dis) {t c : Int} : posL l t = some c ↔ ∃ e ∈ l, e.lo ≤ t ∧ t < endI e ∧ c = e.ph + (t - e.lo) := by
  induction l with
  | nil => simp [posL]
  | cons e l ih =>
    have hp := List.pairwise_cons.1 hd
    have ih := ih hp.2
    unfold posL
    by_cases h : e.lo ≤ t ∧ t < endI e
    · rw [if_pos h]
      constructor
      · intro hc
        cases hc
        exact ⟨e, List.mem_cons_self, h.1, h.2, rfl⟩
      · rintro ⟨x, hx, h1, h2, rfl⟩
        rcases List.mem_cons.1 hx with rfl | hx
        · rfl
        · rcases hp.1 x hx with h3 | h3 <;> omega
    · rw [if_neg h, ih]
      constructor
      · rintro ⟨x, hx, hr⟩; exact ⟨x, List.mem_cons_of_mem _ hx, hr⟩
      · rintro ⟨x, hx, h1, h2, hr⟩
        rcases List.mem_cons.1 hx with rfl | hx
        · exact absurd ⟨h1, h2⟩ h
        · exact ⟨x, hx, h1, h2, hr⟩
theorem posL_ext {l m : List Ext} (hl : l.Pairwise dis) (hm : m.Pairwise dis) (h : ∀ t c, (∃ e ∈ l, e.lo ≤ t ∧ t < endI e ∧ c = e.ph + (t - e.lo)) ↔ (∃ e ∈ m, e.lo ≤ t ∧ t < endI e ∧ c = e.ph + (t - e.lo))) (t : Int) : posL l t = posL m t := by
  have key : ∀ c, posL l t = some c ↔ posL m t = some c := fun c => by rw [posL_mem hl, posL_mem hm]; exact h t c
  cases h1 : posL l t with
  | none =>
    cases h2 : posL m t with
    | none => rfl
    | some c => rw [(key c).2 h2] at h1; cases h1
  | some c => exact ((key c).1 h1).symm
/-- Stands somewhere, by a list of any order. -/
def St (l : List Ext) (t c : Int) : Prop := ∃ e ∈ l, e.lo ≤ t ∧ t < endI e ∧ c = e.ph + (t - e.lo)
theorem st_snoc {l : List Ext} {x : Ext} {t c : Int} : St (l ++ [x]) t c ↔ St l t c ∨ (x.lo ≤ t ∧ t < endI x ∧ c = x.ph + (t - x.lo)) := by
  unfold St
  constructor
  · rintro ⟨e, he, h⟩
    rcases List.mem_append.1 he with he | he
    · exact .inl ⟨e, he, h⟩
    · rw [List.mem_singleton.1 he] at h; exact .inr h
  · rintro (⟨e, he, h⟩ | h)
    · exact ⟨e, List.mem_append.2 (.inl he), h⟩
    · exact ⟨x, List.mem_append.2 (.inr (List.mem_singleton.2 rfl)), h⟩
theorem st_norm (s : List Ext) : Ord s → ∀ t c, St (normL s) t c ↔ St s t c := by
  refine snoc_ind (P := fun s => Ord s → ∀ t c, St (normL s) t c ↔ St s t c) (fun _ t c => Iff.rfl) ?_ s
  intro s e ih h t c
  obtain ⟨h1, h2, h3⟩ := ord_snoc h
  have ih := ih h1 t c
  rw [normL_snoc, st_snoc, ← ih]
  have hone := one_pos h2
  rcases List.eq_nil_or_concat (normL s) with hn | ⟨o, x, hn⟩
  · rw [hn, normStep_nil]
    exact st_snoc (l := [])
  · rw [List.concat_eq_append] at hn
    rw [hn]
    have hx : oneB x = true := (normL_ord s h1).1.one x (by rw [hn]; exact List.mem_append.2 (.inr (List.mem_singleton.2 rfl)))
    have hxp := one_pos hx
    cases hg : goB x e with
    | true =>
      rw [normStep_go hg, st_snoc, st_snoc]
      rw [goB_iff] at hg
      unfold endI at *
      dsimp only
      constructor
      · rintro (h' | ⟨a, b, rfl⟩)
        · exact .inl (.inl h')
        · by_cases hq : t < x.lo + x.ln
          · exact .inl (.inr ⟨a, hq, rfl⟩)
          · exact .inr ⟨by omega, by omega, by omega⟩
      · rintro ((h' | ⟨a, b, rfl⟩) | ⟨a, b, rfl⟩)
        · exact .inl h'
        · exact .inr ⟨a, by omega, rfl⟩
        · exact .inr ⟨by omega, by omega, by omega⟩
    | false => rw [normStep_own hg, st_snoc]
theorem st_runs {f t : Int} {l : List Ext} {y c : Int} : St (runsL f t l) y c ↔ St l y c ∧ f ≤ y ∧ y < t := by
  unfold St
  constructor
  · rintro ⟨x, hx, h1, h2, h3⟩
    obtain ⟨e, he, hp, rfl⟩ := runs_mem hx
    have hb := part_in hp
    rw [partE_yes hp] at h3
    dsimp only at h3
    exact ⟨⟨e, he, by omega, by omega, by omega⟩, by omega, by omega⟩
  · rintro ⟨⟨e, he, h1, h2, rfl⟩, h3, h4⟩
    have hp : partB f t e = true := partB_iff.2 (by unfold endI at h2; omega)
    refine ⟨partE f t e, List.mem_map.2 ⟨e, List.mem_filter.2 ⟨he, hp⟩, rfl⟩, ?_⟩
    rw [partE_yes hp]
    unfold endI at *
    dsimp only
    omega
theorem st_left {f t : Int} {l : List Ext} (hl : ∀ e ∈ l, oneB e = true) {y c : Int} : St (leftL f t l) y c ↔ St l y c ∧ (y < f ∨ t ≤ y) := by
  have hr : ∀ y c, St l y c → 0 ≤ y ∧ y < 65536 := fun y c ⟨e, he, h1, h2, _⟩ => by
    have := oneB_iff.1 (hl e he); unfold endI at h2; omega
  have : St (leftL f t l) y c ↔ St (runsL 0 f l) y c ∨ St (runsL t 65536 l) y c := by
    unfold leftL St
    constructor
    · rintro ⟨e, he, h⟩
      rcases List.mem_append.1 he with he | he
      · exact .inl ⟨e, he, h⟩
      · exact .inr ⟨e, he, h⟩
    · rintro (⟨e, he, h⟩ | ⟨e, he, h⟩)
      · exact ⟨e, List.mem_append.2 (.inl he), h⟩
      · exact ⟨e, List.mem_append.2 (.inr he), h⟩
  rw [this, st_runs, st_runs]
  constructor
  · rintro (⟨h1, h2, h3⟩ | ⟨h1, h2, h3⟩)
    · exact ⟨h1, .inl h3⟩
    · exact ⟨h1, .inr h2⟩
  · rintro ⟨h1, h2 | h2⟩
    · exact .inl ⟨h1, (hr y c h1).1, h2⟩
    · exact .inr ⟨h1, h2, (hr y c h1).2⟩
theorem st_perm {l m : List Ext} (h : l.Perm m) {y c : Int} : St l y c ↔ St m y c := by
  unfold St
  constructor
  · rintro ⟨e, he, hr⟩; exact ⟨e, h.mem_iff.1 he, hr⟩
  · rintro ⟨e, he, hr⟩; exact ⟨e, h.mem_iff.2 he, hr⟩
end Go.Proofs.Ytmboohadindlfaa
