/-
  Clones of slices; a table in new memory.
-/
import Derived.Test.YthibaefoioeghaaPlMay
import Derived.Lib.SlBytesConst
namespace Go.Proofs.Ythibaefoioeghaa
open Go.RowKit
theorem cloneI_any (p : Option Addr) (n c : Nat) (xs : List Int) (w : World) (hx : InI w p n c xs) (hn : n ≤ 1000000000000) :
    Calls Try.prog 69 #[.slice p n c] w fun e w' => ∃ v, e = .returned v ∧ (∃ p' c', v = .slice p' n c') ∧ w'.ownsRow w.heap.size 3 1 v n (valsI xs) ∧ Below w.heap.size w w' := by
  have hroom := hx.room
  have HX : Hid (xs.length = n) := hx.len
  obtain ⟨i0, hi, hz0, hz1, hz2⟩ := info_parts info3
  have hq := fun (w : World) => Lib.run_eql_slice_nil (P := Try.prog) w 22 3 p n c 0 0 Try.underlying22
  cases p with
  | none =>
    have h1 := hx.nil rfl
    have h2 := hx.cap
    have h3 : n = 0 := by omega
    subst h1
    subst h3
    have h4 : xs = [] := List.eq_nil_of_length_eq_zero hx.len
    subst h4
    go_enter Try.func69, Try.ntmps69
    go_wp2
    go_ret
    exact ⟨_, rfl, ⟨_, _, rfl⟩, ⟨rfl, .inl ⟨rfl, rfl⟩⟩, Below.refl _ _⟩
  | some a =>
    have ho := World.ownsRow_lit (e := 3) (size := 1) (base := w.heap.size) w #[] 0 (Nat.le_refl _) (by unfold maxLen; omega) (by simp)
    have HO : Hid ((w.alloc (.cells #[] 3)).ownsRow w.heap.size 3 1 (.slice (some ⟨w.heap.size, 0, none⟩) 0 0) 0 []) := ho
    clear ho
    go_enter Try.func69, Try.ntmps69
    go_wp2_with (at_builtin; refine wpList_append_own _ rfl (.tmp 5) (.tmp 6) 22 rfl w.heap.size 3 i0 (.int .i64 0) 1 8 Try.underlying22 hi hz0 hz1 hz2 rfl (by decide) (.slice (some ⟨w.heap.size, 0, none⟩) 0 0) 0 [] rfl HO.out a n c (valsI xs) rfl (by rw [valsI_length, HX.out, Nat.mul_one]) ((hx.below (below_alloc _ _)).cells rfl) (valsI_one xs) (by unfold maxLen; omega) (by omega) (by simp) ?_; intro v1 w1 hown1 hgrow1 _)
    go_ret
    rw [List.nil_append, Nat.zero_add] at hown1
    obtain ⟨p', c', hv, _⟩ := in_of_ownsI hown1 hroom
    exact ⟨v1, rfl, ⟨p', c', hv⟩, hown1, (below_alloc w _).grown hgrow1 (by simp) (fun k hk => by simp [Value.ownBlock] at hk; omega)⟩
theorem cloneB_any (p : Option Addr) (n c : Nat) (xs : List Bool) (w : World) (hx : InB w p n c xs) (hn : n ≤ 1000000000000) :
    Calls Try.prog 70 #[.slice p n c] w fun e w' => ∃ v, e = .returned v ∧ (∃ p' c', v = .slice p' n c') ∧ w'.ownsRow w.heap.size 4 1 v n (valsB xs) ∧ Below w.heap.size w w' := by
  have hroom := hx.room
  have HX : Hid (xs.length = n) := hx.len
  obtain ⟨i0, hi, hz0, hz1, hz2⟩ := info_parts info4
  have hq := fun (w : World) => Lib.run_eql_slice_nil (P := Try.prog) w 23 4 p n c 0 0 Try.underlying23
  cases p with
  | none =>
    have h1 := hx.nil rfl
    have h2 := hx.cap
    have h3 : n = 0 := by omega
    subst h1
    subst h3
    have h4 : xs = [] := List.eq_nil_of_length_eq_zero hx.len
    subst h4
    go_enter Try.func70, Try.ntmps70
    go_wp2
    go_ret
    exact ⟨_, rfl, ⟨_, _, rfl⟩, ⟨rfl, .inl ⟨rfl, rfl⟩⟩, Below.refl _ _⟩
  | some a =>
    have ho := World.ownsRow_lit (e := 4) (size := 1) (base := w.heap.size) w #[] 0 (Nat.le_refl _) (by unfold maxLen; omega) (by simp)
    have HO : Hid ((w.alloc (.cells #[] 4)).ownsRow w.heap.size 4 1 (.slice (some ⟨w.heap.size, 0, none⟩) 0 0) 0 []) := ho
    clear ho
    go_enter Try.func70, Try.ntmps70
    go_wp2_with (at_builtin; refine wpList_append_own _ rfl (.tmp 5) (.tmp 6) 23 rfl w.heap.size 4 i0 (.bool false) 1 1 Try.underlying23 hi hz0 hz1 hz2 rfl (by decide) (.slice (some ⟨w.heap.size, 0, none⟩) 0 0) 0 [] rfl HO.out a n c (valsB xs) rfl (by rw [valsB_length, HX.out, Nat.mul_one]) ((hx.below (below_alloc _ _)).cells rfl) (valsB_one xs) (by unfold maxLen; omega) (by omega) (by simp) ?_; intro v1 w1 hown1 hgrow1 _)
    go_ret
    rw [List.nil_append, Nat.zero_add] at hown1
    obtain ⟨p', c', hv, _⟩ := in_of_ownsB hown1 hroom
    exact ⟨v1, rfl, ⟨p', c', hv⟩, hown1, (below_alloc w _).grown hgrow1 (by simp) (fun k hk => by simp [Value.ownBlock] at hk; omega)⟩
/-- A log, and where its pages lie. -/
structure LR where
  phys : Int
  p : Option Addr
  c : Nat
  pages : List Int
def LR.log (r : LR) : LogS := ⟨r.phys, r.pages⟩
def LR.v (r : LR) : Value := .slice r.p r.pages.length r.c
def LR.cells (r : LR) : List Value := [.int .i64 r.phys, r.v]
def flatR (L : List LR) : List Value := L.flatMap LR.cells
theorem flatR_length (L : List LR) : (flatR L).length = L.length * 2 := by
  induction L with
  | nil => rfl
  | cons x L ih =>
    have e : flatR (x :: L) = x.cells ++ flatR L := rfl
    rw [e, List.length_append, ih, List.length_cons]
    simp [LR.cells]; omega
theorem flatR_append (L M : List LR) : flatR (L ++ M) = flatR L ++ flatR M := by simp [flatR]
theorem flatR_one (L : List LR) : ∀ u ∈ flatR L, u.oneCell' = true := by
  intro u hu
  obtain ⟨x, _, hx⟩ := List.mem_flatMap.1 hu
  simp [LR.cells, LR.v] at hx
  rcases hx with rfl | rfl <;> rfl
theorem flatR_at {L : List LR} {k : Nat} {x : LR} (h : L[k]? = some x) : (flatR L)[k * 2]? = some (.int .i64 x.phys) ∧ (flatR L)[k * 2 + 1]? = some x.v := by
  induction L generalizing k with
  | nil => simp at h
  | cons y L ih =>
    have e : flatR (y :: L) = .int .i64 y.phys :: y.v :: flatR L := rfl
    cases k with
    | zero =>
      simp at h
      subst h
      rw [e]; simp
    | succ k =>
      have := ih (by simpa using h)
      rw [e, show (k + 1) * 2 = k * 2 + 1 + 1 by omega]
      simpa using this
theorem flatR_inv {L : List LR} {j : Nat} {u : Value} (h : (flatR L)[j]? = some u) : ∃ k x, L[k]? = some x ∧ ((j = k * 2 ∧ u = .int .i64 x.phys) ∨ (j = k * 2 + 1 ∧ u = x.v)) := by
  have hj : j < L.length * 2 := by
    rcases Nat.lt_or_ge j (L.length * 2) with h' | h'
    · exact h'
    · rw [List.getElem?_eq_none (by rw [flatR_length]; exact h')] at h; simp at h
  have hk : j / 2 < L.length := by omega
  refine ⟨j / 2, L[j / 2], List.getElem?_eq_getElem hk, ?_⟩
  obtain ⟨h0, h1⟩ := flatR_at (List.getElem?_eq_getElem hk)
  rcases Nat.mod_two_eq_zero_or_one j with e | e
  · left
    have ej : j = j / 2 * 2 := by omega
    refine ⟨ej, ?_⟩
    rw [← ej, h] at h0
    exact Option.some.inj h0
  · right
    have ej : j = j / 2 * 2 + 1 := by omega
    refine ⟨ej, ?_⟩
    rw [← ej, h] at h1
    exact Option.some.inj h1
theorem flatR_set {L : List LR} {k : Nat} (x : LR) (y : LR) (h : L[k]? = some x) (he : y.phys = x.phys) : (flatR L).set (k * 2 + 1) y.v = flatR (L.set k y) := by
  induction L generalizing k with
  | nil => simp at h
  | cons z L ih =>
    have e : ∀ (a : LR) (M : List LR), flatR (a :: M) = .int .i64 a.phys :: a.v :: flatR M := fun _ _ => rfl
    cases k with
    | zero =>
      simp at h
      subst h
      rw [List.set_cons_zero, e, e, he]; simp
    | succ k =>
      rw [e, show (k + 1) * 2 + 1 = k * 2 + 1 + 1 + 1 by omega, List.set_cons_succ, List.set_cons_succ, ih (by simpa using h), List.set_cons_succ, e]
/-- Where the logs' pages lie. -/
theorem logsIn_rows {w : World} {p : Option Addr} {n c : Nat} {L : List LogS} (h : LogsIn w p n c L) :
    ∃ R : List LR, R.map LR.log = L ∧ (∀ (i : Nat) (r : LR), R[i]? = some r → InI w r.p r.pages.length r.c r.pages) ∧ ∀ a, p = some a → ∀ j u, (flatR R)[j]? = some u → w.cell? (a.add j) = some u := by
  have key : ∀ i : Fin L.length, ∃ r : LR, L[i.1]? = some r.log ∧ InI w r.p r.pages.length r.c r.pages ∧ ∀ b o, p = some ⟨b, o, none⟩ → w.cell? ⟨b, o + i.1 * 2, none⟩ = some (.int .i64 r.phys) ∧ w.cell? ⟨b, o + i.1 * 2 + 1, none⟩ = some r.v := by
    intro i
    have hl := h.len
    obtain ⟨b, o, hp, _, hc⟩ := h.at' (by have := i.2; omega)
    obtain ⟨q, m, d, c0, c1, hin⟩ := hc i.1 L[i.1] (List.getElem?_eq_getElem i.2)
    have hm : m = L[i.1].pages.length := hin.len.symm
    subst hm
    exact ⟨⟨L[i.1].phys, q, d, L[i.1].pages⟩, List.getElem?_eq_getElem i.2, hin, fun b' o' hp' => by rw [hp] at hp'; cases hp'; exact ⟨c0, c1⟩⟩
  obtain ⟨f, hf⟩ := Classical.axiomOfChoice key
  have hg : ∀ i r, (List.ofFn f)[i]? = some r → ∃ hi : i < L.length, r = f ⟨i, hi⟩ := by
    intro i r hr
    obtain ⟨hi, he⟩ := List.getElem?_eq_some_iff.1 hr
    rw [List.length_ofFn] at hi
    exact ⟨hi, by rw [← he]; simp⟩
  refine ⟨List.ofFn f, ?_, fun i r hr => ?_, fun a ha j u hu => ?_⟩
  · apply List.ext_getElem?
    intro i
    rw [List.getElem?_map]
    cases hq : (List.ofFn f)[i]? with
    | none =>
      rw [List.getElem?_eq_none_iff, List.length_ofFn] at hq
      exact (List.getElem?_eq_none hq).symm
    | some r =>
      obtain ⟨hi, rfl⟩ := hg i r hq
      exact (hf ⟨i, hi⟩).1.symm
  · obtain ⟨hi, rfl⟩ := hg i r hr
    exact (hf ⟨i, hi⟩).2.1
  · obtain ⟨k, x, hx, hu'⟩ := flatR_inv hu
    obtain ⟨hk, rfl⟩ := hg k x hx
    have hl := h.len
    obtain ⟨b, o, hp, _⟩ := h.at' (by omega)
    have hab : a = ⟨b, o, none⟩ := Option.some.inj (ha.symm.trans hp)
    subst hab
    obtain ⟨c0, c1⟩ := (hf ⟨k, hk⟩).2.2 b o hp
    rw [addr_add]
    rcases hu' with ⟨rfl, rfl⟩ | ⟨rfl, rfl⟩
    · exact c0
    · exact c1
theorem infoLog : (Try.prog.info? 61).map (fun i => (i.zero, i.size, i.bytes)) = some (some (.agg #[.int .i64 0, .slice none 0 0]), 2, 32) := by kernel_rfl
/-- A slice of known elements: where it lies. -/
theorem owns_slice {w : World} {B n : Nat} {e s : Nat} {v : Value} {xs : List Value} (h : w.ownsRow B e s v n xs) : ∃ p c, v = .slice p n c := by
  rcases h.2 with ⟨rfl, rfl⟩ | ⟨g, cap, cur, hv, _⟩
  · exact ⟨_, _, rfl⟩
  · exact ⟨_, _, hv⟩
theorem cloneG_any (p : Option Addr) (n c : Nat) (L : List LogS) (R : List LR) (w : World) (hx : LogsIn w p n c L) (hR : R.length = n) (hc : ∀ a, p = some a → ∀ j u, (flatR R)[j]? = some u → w.cell? (a.add j) = some u) (hlt : ∀ a, p = some a → 0 < n → a.block < w.heap.size) (hn : n ≤ 1000000000) :
    Calls Try.prog 71 #[.slice p n c] w fun e w' => ∃ v, e = .returned v ∧ (∃ p' c', v = .slice p' n c') ∧ w'.ownsRow w.heap.size 61 2 v n (flatR R) ∧ Below w.heap.size w w' := by
  obtain ⟨i0, hi, hz0, hz1, hz2⟩ := info_parts infoLog
  have hq := fun (w : World) => Lib.run_eql_slice_nil (P := Try.prog) w 26 61 p n c 0 0 Try.underlying26
  cases p with
  | none =>
    have h1 := hx.nil rfl
    have h2 := hx.cap
    have h3 : n = 0 := by omega
    subst h1
    subst h3
    have h4 : R = [] := List.eq_nil_of_length_eq_zero hR
    subst h4
    go_enter Try.func71, Try.ntmps71
    go_wp2
    go_ret
    exact ⟨_, rfl, ⟨_, _, rfl⟩, ⟨rfl, .inl ⟨rfl, rfl⟩⟩, Below.refl _ _⟩
  | some a =>
    have ho := World.ownsRow_lit (e := 61) (size := 2) (base := w.heap.size) w #[] 0 (Nat.le_refl _) (by unfold maxLen; omega) (by simp)
    have HO : Hid ((w.alloc (.cells #[] 61)).ownsRow w.heap.size 61 2 (.slice (some ⟨w.heap.size, 0, none⟩) 0 0) 0 []) := ho
    have HC : Hid (∀ j u, (flatR R)[j]? = some u → (w.alloc (.cells #[] 61)).cell? (a.add j) = some u) := by
      intro j u hu
      have h1 := hc a rfl j u hu
      have hpos : 0 < n := by
        rw [← hR]
        rcases Nat.eq_zero_or_pos R.length with h0 | h0
        · rw [List.eq_nil_of_length_eq_zero h0] at hu; simp [flatR] at hu
        · exact h0
      have h2 : (a.add j).block < w.heap.size := by
        have := hlt a rfl hpos
        have e : (a.add j).block = a.block := by unfold Addr.add; split <;> rfl
        rw [e]; exact this
      exact ((below_alloc w _).cell (p := a.add j) h2).trans h1
    have HR : Hid (R.length = n) := hR
    clear ho hc hlt hR
    go_enter Try.func71, Try.ntmps71
    go_wp2_with (at_builtin; refine wpList_append_own _ rfl (.tmp 5) (.tmp 6) 26 rfl w.heap.size 61 i0 (.agg #[.int .i64 0, .slice none 0 0]) 2 32 Try.underlying26 hi hz0 hz1 hz2 rfl (by decide) (.slice (some ⟨w.heap.size, 0, none⟩) 0 0) 0 [] rfl HO.out a n c (flatR R) rfl (by rw [flatR_length, HR.out]) HC.out (flatR_one R) (by unfold maxLen; omega) (by omega) (by simp) ?_; intro v1 w1 hown1 hgrow1 _)
    go_ret
    rw [List.nil_append, Nat.zero_add] at hown1
    exact ⟨v1, rfl, owns_slice hown1, hown1, (below_alloc w _).grown hgrow1 (by simp) (fun k hk => by simp [Value.ownBlock] at hk; omega)⟩
/-- A table in new memory. -/
structure OwnT (B : Nat) (w : World) (V : TabV) (T : Tab) (R : List LR) : Prop where
  logs : T.logs = R.map LR.log
  d : w.ownsRow B 3 1 (.slice V.pd V.nd V.cd) V.nd (valsI T.data)
  h : w.ownsRow B 4 1 (.slice V.ph V.nh V.ch) V.nh (valsB T.have')
  l : w.ownsRow B 61 2 (.slice V.pl V.nl V.cl) V.nl (flatR R)
  r : ∀ (i : Nat) (r : LR), R[i]? = some r → w.ownsRow B 3 1 r.v r.pages.length (valsI r.pages)
  ap : ∀ (i j : Nat) (r s : LR) (a b : Addr), i ≠ j → R[i]? = some r → R[j]? = some s → r.p = some a → s.p = some b → a.block ≠ b.block
  ad : ∀ (i : Nat) (r : LR) (a b : Addr), R[i]? = some r → r.p = some a → V.pd = some b → a.block ≠ b.block
  sm : V.nd ≤ 1000000 ∧ V.nh ≤ 1000000 ∧ V.nl ≤ 1000000 ∧ ∀ (i : Nat) (r : LR), R[i]? = some r → r.pages.length ≤ 1000000
theorem OwnT.next {B : Nat} {w w' : World} {V : TabV} {T : Tab} {R : List LR} (h : OwnT B w V T R) (hb : Below w.heap.size w w') : OwnT B w' V T R :=
  ⟨h.logs, owns_below h.d hb, owns_below h.h hb, owns_below h.l hb, fun i r hr => owns_below (h.r i r hr) hb, h.ap, h.ad, h.sm⟩
theorem OwnT.low {A B : Nat} {w : World} {V : TabV} {T : Tab} {R : List LR} (h : OwnT B w V T R) (hb : A ≤ B) : OwnT A w V T R :=
  ⟨h.logs, owns_mono h.d hb, owns_mono h.h hb, owns_mono h.l hb, fun i r hr => owns_mono (h.r i r hr) hb, h.ap, h.ad, h.sm⟩
theorem OwnT.inT {B : Nat} {w : World} {V : TabV} {T : Tab} {R : List LR} (h : OwnT B w V T R) : TabIn w V T := by
  obtain ⟨h1, h2, h3, h4⟩ := h.sm
  refine ⟨?_, ?_, ?_⟩
  · obtain ⟨p', c', hv, hin⟩ := in_of_ownsI h.d (by omega)
    cases hv; exact hin
  · obtain ⟨p', c', hv, hin⟩ := in_of_ownsB h.h (by omega)
    cases hv; exact hin
  · have hl := h.l.1
    rw [flatR_length] at hl
    have hlen : R.length = V.nl := by omega
    have hL : T.logs.length = V.nl := by rw [h.logs, List.length_map]; exact hlen
    rcases h.l.2 with ⟨hv, h0⟩ | ⟨g, cap, cur, hv, hg, hh, hnc, hcm, hsz, htk⟩
    · simp only [Value.slice.injEq] at hv
      obtain ⟨e1, e2, e3⟩ := hv
      rw [e1, e2, e3]
      rw [e2] at hL
      exact ⟨hL, Nat.le_refl _, Nat.zero_le _, by omega, fun h => by omega, fun _ => rfl⟩
    · simp only [Value.slice.injEq] at hv
      obtain ⟨e1, _, e3⟩ := hv
      have hglt : g < w.heap.size := by
        rcases Nat.lt_or_ge g w.heap.size with h' | h'
        · exact h'
        · rw [Array.getElem?_eq_none h'] at hh; simp at hh
      have hl2 := h.l
      rw [e1] at hl2 ⊢
      refine ⟨hL, by omega, by omega, by omega, fun _ => ⟨g, 0, rfl, hglt, fun i l hi => ?_⟩, fun h => by simp at h⟩
      rw [h.logs, List.getElem?_map] at hi
      cases hr : R[i]? with
      | none => rw [hr] at hi; simp at hi
      | some r =>
        rw [hr] at hi
        simp at hi
        subst hi
        obtain ⟨f0, f1⟩ := flatR_at hr
        have hi' : i < R.length := (List.getElem?_eq_some_iff.1 hr).1
        have c0 := hl2.cellAt (i * 2) (by omega)
        have c1 := hl2.cellAt (i * 2 + 1) (by omega)
        rw [f0] at c0
        rw [f1] at c1
        obtain ⟨p', c', hv', hin⟩ := in_of_ownsI (h.r i r hr) (by have := h4 i r hr; omega)
        simp only [LR.v, Value.slice.injEq] at hv'
        obtain ⟨e4, _, e5⟩ := hv'
        refine ⟨r.p, r.pages.length, r.c, by rw [Nat.zero_add]; exact c0, by rw [Nat.zero_add]; exact c1, ?_⟩
        rw [e4, e5]; exact hin
end Go.Proofs.Ythibaefoioeghaa
