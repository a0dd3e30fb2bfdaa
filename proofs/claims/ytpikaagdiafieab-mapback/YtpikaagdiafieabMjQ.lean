/-
  Rows of pages of the call's own; slices.Clone of pages.
-/
import Derived.Test.YtpikaagdiafieabMjRecsB
import Derived.Test.YtpikaagdiafieabMjReplay
namespace Go.Proofs.Ytpikaagdiafieab
open Go.RowKit
/-- A page and where its rows lie. -/
abbrev QP := PV × MP
def QP.cells (q : QP) : List Value := PV.cells q.1 q.2
def eQ (l : List QP) (i : Nat) : QP := l.getD i (PV.zero, MP.zero)
def flatQ (l : List QP) : List Value := l.flatMap QP.cells
theorem flatQ_cons (x : QP) (l : List QP) : flatQ (x :: l) = .int .i64 x.2.kind :: .int .i64 x.2.gen :: .int .i64 x.2.part :: .int .i64 x.2.seq :: .slice x.1.pb x.1.nb x.1.cb :: .slice x.1.pw x.1.nw x.1.cw :: .slice x.1.pr x.1.nr x.1.cr :: flatQ l := rfl
theorem flatQ_length (l : List QP) : (flatQ l).length = l.length * 7 := by
  induction l with
  | nil => rfl
  | cons x l ih => rw [flatQ_cons]; simp only [List.length_cons, ih]; omega
theorem flatQ_append (l m : List QP) : flatQ (l ++ m) = flatQ l ++ flatQ m := by simp [flatQ]
theorem flatQ_one (l : List QP) : ∀ u ∈ flatQ l, u.oneCell' = true := by
  intro u hu
  obtain ⟨x, _, hx⟩ := List.mem_flatMap.1 hu
  exact mpOne x.1 x.2 u hx
theorem flatQ_at {l : List QP} {k : Nat} (h : k < l.length) : (flatQ l)[k * 7]? = some (.int .i64 (eQ l k).2.kind) ∧ (flatQ l)[k * 7 + 1]? = some (.int .i64 (eQ l k).2.gen) ∧ (flatQ l)[k * 7 + 2]? = some (.int .i64 (eQ l k).2.part) ∧ (flatQ l)[k * 7 + 3]? = some (.int .i64 (eQ l k).2.seq) ∧ (flatQ l)[k * 7 + 4]? = some (.slice (eQ l k).1.pb (eQ l k).1.nb (eQ l k).1.cb) ∧ (flatQ l)[k * 7 + 5]? = some (.slice (eQ l k).1.pw (eQ l k).1.nw (eQ l k).1.cw) ∧ (flatQ l)[k * 7 + 6]? = some (.slice (eQ l k).1.pr (eQ l k).1.nr (eQ l k).1.cr) := by
  induction l generalizing k with
  | nil => simp at h
  | cons y l ih =>
    cases k with
    | zero => rw [flatQ_cons]; simp [eQ]
    | succ k =>
      have := ih (k := k) (by simpa using h)
      rw [flatQ_cons, show (k + 1) * 7 = k * 7 + 1 + 1 + 1 + 1 + 1 + 1 + 1 by omega]
      simpa [eQ] using this
theorem cells_lt' {q : QP} {j : Nat} {u : Value} (h : (QP.cells q)[j]? = some u) : j < 7 := by
  rcases Nat.lt_or_ge j 7 with h' | h'
  · exact h'
  · rw [List.getElem?_eq_none (by show 7 ≤ j; exact h')] at h; cases h
theorem cells_at (q : QP) {j : Nat} {u : Value} (h : (QP.cells q)[j]? = some u) {l : List QP} {k : Nat} (hk : k < l.length) (hq : q = eQ l k) : (flatQ l)[k * 7 + j]? = some u := by
  subst hq
  obtain ⟨f0, f1, f2, f3, f4, f5, f6⟩ := flatQ_at hk
  have hj : j < 7 := cells_lt' h
  match j, hj with
  | 0, _ => rw [Nat.add_zero, f0]; exact h
  | 1, _ => rw [f1]; exact h
  | 2, _ => rw [f2]; exact h
  | 3, _ => rw [f3]; exact h
  | 4, _ => rw [f4]; exact h
  | 5, _ => rw [f5]; exact h
  | 6, _ => rw [f6]; exact h
/-- A slice of pages that lies in a world. -/
def InQ (w : World) (p : Option Addr) (n c : Nat) (l : List QP) : Prop := InPs w p n c (fun i => (eQ l i).1) (l.map (·.2))
theorem eP_map (l : List QP) (i : Nat) : eP (l.map (·.2)) i = (eQ l i).2 := by
  simp only [eP, eQ, List.getD_eq_getElem?_getD, List.getElem?_map]
  cases l[i]? <;> rfl
theorem InQ.length {w : World} {p : Option Addr} {n c : Nat} {l : List QP} (h : InQ w p n c l) : l.length = n := by have := h.len; simpa using this
theorem InQ.below {w w' : World} {p : Option Addr} {n c : Nat} {l : List QP} (h : InQ w p n c l) (hb : Below w.heap.size w w') : InQ w' p n c l := InPs.below h hb
theorem InQ.nil {w : World} {p : Option Addr} {n c : Nat} {l : List QP} (h : InQ w p n c l) (hp : p = none) : c = 0 := InPs.nil h hp
theorem InQ.cap {w : World} {p : Option Addr} {n c : Nat} {l : List QP} (h : InQ w p n c l) : n ≤ c := InPs.cap h
theorem InQ.flat {w : World} {p : Option Addr} {n c : Nat} {l : List QP} (h : InQ w p n c l) {a : Addr} (ha : p = some a) : ∀ j u, (flatQ l)[j]? = some u → w.cell? (a.add j) = some u := by
  intro j u hu
  have hj : j < l.length * 7 := by
    rcases Nat.lt_or_ge j (l.length * 7) with h' | h'
    · exact h'
    · rw [List.getElem?_eq_none (by rw [flatQ_length]; exact h')] at hu; simp at hu
  have hl := h.length
  obtain ⟨b, o, hp, _, hc⟩ := h.at' (by omega)
  rw [ha] at hp
  cases hp
  obtain ⟨i, r, hir, hr⟩ : ∃ i r, j = i * 7 + r ∧ r < 7 := ⟨j / 7, j % 7, by omega, by omega⟩
  subst hir
  have hci := hc i (by omega) r u
  rw [eP_map] at hci
  rw [addr_add, ← Nat.add_assoc]
  refine hci ?_
  obtain ⟨f0, f1, f2, f3, f4, f5, f6⟩ := flatQ_at (l := l) (k := i) (by omega)
  match r, hr with
  | 0, _ => rw [Nat.add_zero, f0] at hu; exact hu
  | 1, _ => rw [f1] at hu; exact hu
  | 2, _ => rw [f2] at hu; exact hu
  | 3, _ => rw [f3] at hu; exact hu
  | 4, _ => rw [f4] at hu; exact hu
  | 5, _ => rw [f5] at hu; exact hu
  | 6, _ => rw [f6] at hu; exact hu
theorem in_of_ownsQ {w : World} {B : Nat} {v : Value} {n : Nat} {l : List QP} (h : w.ownsRow B 34 7 v n (flatQ l)) (hr : n ≤ 140737488355328) (he : ∀ i, i < l.length → InP w (eQ l i).1 (eQ l i).2) :
    ∃ p c, v = .slice p n c ∧ InQ w p n c l := by
  have hl : l.length = n := by have := h.1; rw [flatQ_length] at this; omega
  rcases h.2 with ⟨rfl, rfl⟩ | ⟨g, cap, cur, rfl, hg, hh, hnc, hcm, hsz, htk⟩
  · have : l = [] := List.eq_nil_of_length_eq_zero hl
    subst this
    exact ⟨none, 0, rfl, rfl, Nat.le_refl _, Nat.zero_le _, Nat.zero_le _, fun h => by omega, fun i hi => by omega, fun _ => rfl⟩
  · refine ⟨some ⟨g, 0, none⟩, cap, rfl, by simpa using hl, hnc, hcm, hr, fun h0 => ⟨g, 0, rfl, ?_, fun i hi j u hu => ?_⟩, fun i hi => by rw [eP_map]; exact he i (by omega), fun h => by simp at h⟩
    · rcases Nat.lt_or_ge g w.heap.size with h' | h'
      · exact h'
      · rw [Array.getElem?_eq_none h'] at hh; simp at hh
    · rw [eP_map] at hu
      rw [Nat.zero_add]
      have hj : j < 7 := cells_lt' (q := eQ l i) hu
      exact (World.ownsRow.cellAt h (i * 7 + j) (by omega)).trans (cells_at (eQ l i) hu (by omega) rfl)
theorem infoQ : (Try.prog.info? 34).map (fun i => (i.zero, i.size, i.bytes)) = some (some (.agg #[.int .i64 0, .int .i64 0, .int .i64 0, .int .i64 0, .slice none 0 0, .slice none 0 0, .slice none 0 0]), 7, 104) := by kernel_rfl
theorem owns_sliceQ {w : World} {B : Nat} {v : Value} {n : Nat} {l : List QP} (h : w.ownsRow B 34 7 v n (flatQ l)) : ∃ p c, v = .slice p n c := by
  rcases h.2 with ⟨rfl, rfl⟩ | ⟨g, cap, cur, rfl, _⟩
  · exact ⟨none, 0, rfl⟩
  · exact ⟨_, _, rfl⟩
/-- Pages that came in, with where they lie. -/
def pairQ (f : Nat → PV) (l : List MP) : List QP := (List.range l.length).map fun i => (f i, eP l i)
theorem pairQ_length (f : Nat → PV) (l : List MP) : (pairQ f l).length = l.length := by simp [pairQ]
theorem eQ_pair {f : Nat → PV} {l : List MP} {i : Nat} (h : i < l.length) : eQ (pairQ f l) i = (f i, eP l i) := by simp [eQ, pairQ, h]
theorem pairQ_snd (f : Nat → PV) (l : List MP) : (pairQ f l).map (·.2) = l := by
  apply List.ext_getElem (by simp [pairQ])
  intro i h1 h2
  simp [pairQ, eP, h2]
theorem InPs.pair {w : World} {p : Option Addr} {n c : Nat} {f : Nat → PV} {l : List MP} (h : InPs w p n c f l) : InQ w p n c (pairQ f l) := by
  have hl := h.len
  unfold InQ
  rw [pairQ_snd]
  refine ⟨h.len, h.cap, h.max, h.room, fun h0 => ?_, fun i hi => ?_, h.nil⟩
  · obtain ⟨b, o, hp, hlt, hc⟩ := h.at' h0
    refine ⟨b, o, hp, hlt, fun i hi j u hu => ?_⟩
    rw [eQ_pair (by omega)] at hu
    exact hc i hi j u hu
  · rw [eQ_pair (by omega)]
    exact h.each i hi
theorem cloneP_any (p : Option Addr) (n c : Nat) (l : List QP) (w : World) (hx : InQ w p n c l) (hn : n ≤ 100000000) :
    Calls Try.prog 7 #[.slice p n c] w fun e w' => ∃ p' c', e = .returned (.slice p' n c') ∧ w'.ownsRow w.heap.size 34 7 (.slice p' n c') n (flatQ l) ∧ Below w.heap.size w w' := by
  have HX : Hid (l.length = n) := hx.length
  obtain ⟨i0, hi, hz0, hz1, hz2⟩ := info_parts infoQ
  have hq := fun (w : World) => Lib.run_eql_slice_nil (P := Try.prog) w 22 34 p n c 0 0 Try.underlying22
  cases p with
  | none =>
    have h1 := hx.nil rfl
    have h2 := hx.cap
    have h3 : n = 0 := by omega
    subst h1
    subst h3
    have h4 : l = [] := List.eq_nil_of_length_eq_zero hx.length
    subst h4
    go_enter Try.func7, Try.ntmps7
    go_wp2
    go_ret
    exact ⟨_, _, rfl, ⟨rfl, .inl ⟨rfl, rfl⟩⟩, Below.refl _ _⟩
  | some a =>
    have ho := World.ownsRow_lit (e := 34) (size := 7) (base := w.heap.size) w #[] 0 (Nat.le_refl _) (by unfold maxLen; omega) (by simp)
    have HO : Hid ((w.alloc (.cells #[] 34)).ownsRow w.heap.size 34 7 (.slice (some ⟨w.heap.size, 0, none⟩) 0 0) 0 []) := ho
    clear ho
    go_enter Try.func7, Try.ntmps7
    go_wp2_with (at_builtin; refine wpList_append_own _ rfl (.tmp 5) (.tmp 6) 22 rfl w.heap.size 34 i0 (.agg #[.int .i64 0, .int .i64 0, .int .i64 0, .int .i64 0, .slice none 0 0, .slice none 0 0, .slice none 0 0]) 7 104 Try.underlying22 hi hz0 hz1 hz2 rfl (by decide) (.slice (some ⟨w.heap.size, 0, none⟩) 0 0) 0 [] rfl HO.out a n c (flatQ l) rfl (by rw [flatQ_length, HX.out]) ((hx.below (below_alloc _ _)).flat rfl) (flatQ_one l) (by unfold maxLen; omega) (by omega) (by simp) ?_; intro v1 w1 hown1 hgrow1 _)
    go_ret
    rw [List.nil_append, Nat.zero_add] at hown1
    obtain ⟨p', c', hv⟩ := owns_sliceQ hown1
    subst hv
    exact ⟨p', c', rfl, hown1, (below_alloc w _).grown hgrow1 (by simp) (fun k hk => by simp [Value.ownBlock] at hk; omega)⟩
end Go.Proofs.Ytpikaagdiafieab
