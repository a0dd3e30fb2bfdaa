/-
  The plain heart of P4.5: what each call makes of a pool that may be may be, has as many blocks, and each bad one is bad still. Pools in a row, and what keeps their memory apart.
-/
import Derived.Test.YtigkfmdhmonjlaaPoWears
namespace Go.Proofs.Ytigkfmdhmonjlaa
open Go.RowKit
/-- What P4.5 asks of a pool that came of one with the roles R. -/
def Fine (R A X : List Int) : Prop := okPool A X = true ∧ A.length = R.length ∧ ∀ k, eI R k = 6 → eI A k = 6
theorem eI_put {xs : List Int} {b : Nat} (hb : b < xs.length) (x : Int) (i : Nat) : eI (xs.set b x) i = if i = b then x else eI xs i := by
  by_cases h : i = b
  · subst h; simp [eI, hb]
  · rw [if_neg h]; simp [eI, Ne.symm h]
theorem okPool_put {R W : List Int} (h : okPool R W = true) {b : Nat} (hb : b < R.length) {r x : Int} (hr : okR r = true) (hx : okWear x = true) : okPool (R.set b r) (W.set b x) = true := by
  obtain ⟨⟨h1, h2, h3⟩, h4, h5⟩ := okPool_iff.1 h
  refine okPool_iff.2 ⟨⟨by simpa using h1, by simpa using h2, by simpa using h3⟩, eI_all.2 fun j hj => ?_, eI_all.2 fun j hj => ?_⟩
  · rw [List.length_set] at hj
    rw [eI_put hb]
    split
    · exact hr
    · exact eI_all.1 h4 j hj
  · rw [List.length_set] at hj
    rw [eI_put (by omega)]
    split
    · exact hx
    · exact eI_all.1 h5 j hj
theorem fine_self {R W : List Int} (h : okPool R W = true) : Fine R R W := ⟨h, rfl, fun _ h => h⟩
theorem fine_put {R W : List Int} (h : okPool R W = true) {b : Nat} (hb : b < R.length) {r x : Int} (hr : okR r = true) (hx : okWear x = true) (h6 : eI R b = 6 → r = 6) : Fine R (R.set b r) (W.set b x) := by
  refine ⟨okPool_put h hb hr hx, by simp, fun k hk => ?_⟩
  rw [eI_put hb]
  split
  · rename_i e; subst e; exact h6 hk
  · exact hk
theorem okUse_iff {x : Int} : okUse x = true ↔ 2 ≤ x ∧ x ≤ 5 := by simp [okUse]
theorem reach_in {R W : List Int} {b : Int} (h : reachE R W b = 0) : okPool R W = true ∧ b.toNat < R.length ∧ okR (eI R b.toNat) = true ∧ okWear (eI W b.toNat) = true ∧ okWear (min (eI W b.toNat + 1) 16777215) = true := by
  obtain ⟨hok, hib⟩ := reachE_ok h
  obtain ⟨⟨h1, h2, h3⟩, h4, h5⟩ := okPool_iff.1 hok
  have hb := isB_iff.1 hib
  have hw := eI_all.1 h5 b.toNat (by omega)
  refine ⟨hok, by omega, eI_all.1 h4 _ (by omega), hw, okWear_iff.2 ?_⟩
  have := okWear_iff.1 hw
  omega
theorem take_fine {R W : List Int} {b role : Int} (h : (takeS R W b role).2.2 = 0) : Fine R (takeS R W b role).1 (takeS R W b role).2.1 := by
  unfold takeS at h ⊢
  by_cases hr : reachE R W b = 0
  · obtain ⟨hok, hb, _, hw, _⟩ := reach_in hr
    rw [if_pos hr] at h ⊢
    by_cases hu : (okUse role && decide (eI R b.toNat = 1)) = true
    · rw [if_pos hu]
      simp only [Bool.and_eq_true, decide_eq_true_eq] at hu
      have h1 := okUse_iff.1 hu.1
      have := fine_put hok hb (r := role) (x := eI W b.toNat) (okR_iff.2 (by omega)) hw (fun h6 => by omega)
      rwa [set_same] at this
    · rw [if_neg hu] at h; simp at h
  · rw [if_neg hr] at h; exact absurd h hr
theorem give_fine {R W : List Int} {b : Int} (h : (giveS R W b).2.2 = 0) : Fine R (giveS R W b).1 (giveS R W b).2.1 := by
  unfold giveS at h ⊢
  by_cases hr : reachE R W b = 0
  · obtain ⟨hok, hb, _, _, hw⟩ := reach_in hr
    rw [if_pos hr] at h ⊢
    by_cases hu : okUse (eI R b.toNat) = true
    · rw [if_pos hu]
      have h1 := okUse_iff.1 hu
      exact fine_put hok hb (okR_iff.2 (by omega)) hw (fun h6 => by omega)
    · rw [if_neg hu] at h; simp at h
  · rw [if_neg hr] at h; exact absurd h hr
theorem erased_fine {R W : List Int} {b : Int} (h : (erasedS R W b).2.2 = 0) : Fine R (erasedS R W b).1 (erasedS R W b).2.1 := by
  unfold erasedS at h ⊢
  by_cases hr : reachGE R W b = 0
  · obtain ⟨hre, _⟩ := reachGE_ok hr
    obtain ⟨hok, hb, hR, _, hw⟩ := reach_in hre
    rw [if_pos hr]
    have := fine_put hok hb hR hw (fun h6 => h6)
    rwa [set_same] at this
  · rw [if_neg hr] at h; exact absurd h hr
theorem retire_fine {R W : List Int} {b : Int} (h : (retireS R W b).2.2 = 0) : Fine R (retireS R W b).1 (retireS R W b).2.1 := by
  unfold retireS at h ⊢
  by_cases hr : reachGE R W b = 0
  · obtain ⟨hre, _⟩ := reachGE_ok hr
    obtain ⟨hok, hb, _, hw, _⟩ := reach_in hre
    rw [if_pos hr]
    have := fine_put hok hb (r := 6) (by decide) hw (fun _ => rfl)
    rwa [set_same] at this
  · rw [if_neg hr] at h; exact absurd h hr
theorem wears_fine {R W l : List Int} (h : (wearsS R W l).2.2 = 0) : Fine R (wearsS R W l).1 (wearsS R W l).2.1 := by
  cases hok : okPool R W with
  | false => rw [wearsS_no hok] at h; simp at h
  | true =>
    by_cases hl : l.length = W.length ∧ l.all okWear = true
    · rw [wearsS_ok hok hl]
      obtain ⟨h1, h4, h5⟩ := okPool_iff.1 hok
      refine ⟨okPool_iff.2 ⟨by rw [maxTo_length]; exact h1, h4, eI_all.2 fun j hj => ?_⟩, rfl, fun _ h => h⟩
      rw [maxTo_length] at hj
      have hj2 : eI (maxTo W l W.length) j = max (eI W j) (eI l j) := by simp [maxTo, eI, hj]
      have a1 := okWear_iff.1 (eI_all.1 h5 j hj)
      have a2 := okWear_iff.1 (eI_all.1 hl.2 j (by omega))
      rw [hj2]
      exact okWear_iff.2 (by omega)
    · rw [wearsS_arg hok hl] at h; simp at h
/-- A pool as a value. -/
structure PR where
  p : Option Addr
  n : Nat
  c : Nat
  q : Option Addr
  m : Nat
  d : Nat
  A : List Int
  X : List Int
def PR.cells (x : PR) : List Value := [.slice x.p x.n x.c, .slice x.q x.m x.d]
def PR.In (B : Nat) (w : World) (x : PR) : Prop := NewP B w x.p x.n x.c x.q x.m x.d x.A x.X
/-- The rows of a pool lie in blocks of that span. -/
def Span (lo hi : Nat) (p q : Option Addr) : Prop := (∀ a, p = some a → lo ≤ a.block ∧ a.block < hi) ∧ (∀ a, q = some a → lo ≤ a.block ∧ a.block < hi)
theorem NewP.span {B : Nat} {w : World} {p q : Option Addr} {n c m d : Nat} {R W : List Int} (h : NewP B w p n c q m d R W) : Span B w.heap.size p q :=
  ⟨fun a e => by subst e; exact h.r.lt a.block rfl, fun a e => by subst e; exact h.v.lt a.block rfl⟩
/-- The roles of the first pool lie in no block of the second. -/
def Apart (x y : PR) : Prop := ∀ a, x.p = some a → FarP a.block y.p y.q
theorem apart_of {lo hi lo' hi' : Nat} {x y : PR} (h : Span lo hi x.p x.q) (h' : Span lo' hi' y.p y.q) (hh : hi ≤ lo' ∨ hi' ≤ lo) : Apart x y := by
  intro a ha
  have h1 := h.1 a ha
  refine ⟨fun b hb => ?_, fun b hb => ?_⟩
  · have := h'.1 b hb; omega
  · have := h'.2 b hb; omega
/-- What is known of each pool of the row: it is fine, and its roles lie apart from the box of p, the box of was, the rows of was, and below T. -/
structure Good (g4 g9 T : Nat) (pw qw : Option Addr) (R : List Int) (x : PR) : Prop where
  fine : Fine R x.A x.X
  far : ∀ a, x.p = some a → a.block ≠ g4 ∧ a.block ≠ g9 ∧ FarP a.block pw qw ∧ a.block < T
theorem good_of {g4 g9 T lo hi lo' hi' : Nat} {pw qw : Option Addr} {R : List Int} {x : PR} (hf : Fine R x.A x.X) (h : Span lo hi x.p x.q) (hw : Span lo' hi' pw qw) (h4 : g4 < lo) (h9 : g9 < lo) (hl : hi' ≤ lo) (hT : hi ≤ T) : Good g4 g9 T pw qw R x := by
  refine ⟨hf, fun a ha => ?_⟩
  have h1 := h.1 a ha
  refine ⟨by omega, by omega, ⟨fun b hb => ?_, fun b hb => ?_⟩, by omega⟩
  · have := hw.1 b hb; omega
  · have := hw.2 b hb; omega
theorem Turned.trans {a b c : World} {g : Nat} (h : Turned a b g) (h' : Turned b c g) : Turned a c g :=
  ⟨h'.os.trans h.os, h'.tape.trans h.tape, h'.output.trans h.output, h'.size.trans h.size, fun k hk => (h'.block k hk).trans (h.block k hk)⟩
theorem Turned.refl (a : World) (g : Nat) : Turned a a g := ⟨rfl, rfl, rfl, rfl, fun _ _ => rfl⟩
def flat (L : List PR) : List Value := L.flatMap PR.cells
theorem flat_length (L : List PR) : (flat L).length = L.length * 2 := by
  induction L with
  | nil => rfl
  | cons x L ih =>
    have e : flat (x :: L) = x.cells ++ flat L := rfl
    rw [e, List.length_append, ih, List.length_cons]
    simp [PR.cells]; omega
theorem flat_append (L M : List PR) : flat (L ++ M) = flat L ++ flat M := by simp [flat]
theorem flat_one (L : List PR) : ∀ u ∈ flat L, u.oneCell' = true := by
  intro u hu
  obtain ⟨x, _, hx⟩ := List.mem_flatMap.1 hu
  simp [PR.cells] at hx
  rcases hx with rfl | rfl <;> rfl
theorem flat_at {L : List PR} {k : Nat} {x : PR} (h : L[k]? = some x) : (flat L)[k * 2]? = some (.slice x.p x.n x.c) ∧ (flat L)[k * 2 + 1]? = some (.slice x.q x.m x.d) := by
  induction L generalizing k with
  | nil => simp at h
  | cons y L ih =>
    have e : flat (y :: L) = .slice y.p y.n y.c :: .slice y.q y.m y.d :: flat L := rfl
    cases k with
    | zero =>
      simp at h
      subst h
      rw [e]; simp
    | succ k =>
      have := ih (by simpa using h)
      rw [e, show (k + 1) * 2 = k * 2 + 1 + 1 by omega]
      simpa using this
theorem NewP.under {B lo hi T : Nat} {w w' : World} {p q : Option Addr} {n c m d : Nat} {R W : List Int} (h : NewP B w p n c q m d R W) (hs : Span lo hi p q) (hT : hi ≤ T) (hb : Below T w w') : NewP B w' p n c q m d R W := by
  have key : ∀ (e s : Nat) (v : Option Addr) (k cap : Nat) (xs : List Value), (∀ a, v = some a → a.block < T) → w.ownsRow B e s (.slice v k cap) k xs → w'.ownsRow B e s (.slice v k cap) k xs := by
    intro e s v k cap xs hv h
    refine ⟨h.1, ?_⟩
    rcases h.2 with h' | ⟨g, cap', cur, hq, hg, hh, hr⟩
    · exact .inl h'
    · refine .inr ⟨g, cap', cur, hq, hg, ?_, hr⟩
      simp only [Value.slice.injEq] at hq
      rw [hb.block g (hv _ hq.1)]; exact hh
  exact ⟨key _ _ _ _ _ _ (fun a e => by have := (hs.1 a e).2; omega) h.r, key _ _ _ _ _ _ (fun a e => by have := (hs.2 a e).2; omega) h.v, h.hn, h.hm, h.ne⟩
theorem owns_shape {w : World} {B n : Nat} {e : TypeId} {s : Nat} {v : Value} {xs : List Value} (h : w.ownsRow B e s v n xs) (hn : 0 < n) : ∃ g c, v = .slice (some ⟨g, 0, none⟩) n c ∧ B ≤ g ∧ g < w.heap.size := by
  rcases h.2 with ⟨_, h0⟩ | ⟨g, cap, cur, hv, hb, hg, _⟩
  · omega
  · refine ⟨g, cap, hv, hb, ?_⟩
    rcases Nat.lt_or_ge g w.heap.size with h' | h'
    · exact h'
    · rw [Array.getElem?_eq_none h'] at hg; simp at hg
theorem made_range {w : World} {B n g c : Nat} {e : TypeId} {L : List PR} (h : w.ownsRow B e 2 (.slice (some ⟨g, 0, none⟩) n c) n (flat L)) {k : Nat} {x : PR} (hx : L[k]? = some x) : w.rangeAt g (k * 2) x.cells := by
  have hn := h.1
  rw [flat_length] at hn
  have hk : k < L.length := by
    rcases Nat.lt_or_ge k L.length with h' | h'
    · exact h'
    · rw [List.getElem?_eq_none h'] at hx; simp at hx
  obtain ⟨f0, f1⟩ := flat_at hx
  intro j v hv
  have hj : j < 2 := by
    rcases Nat.lt_or_ge j 2 with h' | h'
    · exact h'
    · rw [List.getElem?_eq_none (by simpa [PR.cells] using h')] at hv; simp at hv
  have hc := h.cellAt (k * 2 + j) (by omega)
  rw [hc]
  have : j = 0 ∨ j = 1 := by omega
  rcases this with rfl | rfl
  · rw [Nat.add_zero, f0]; exact hv
  · rw [f1]; exact hv
theorem infoPool : (Try.prog.info? 25).map (fun i => (i.zero, i.size, i.bytes)) = some (some (.agg #[.slice none 0 0, .slice none 0 0]), 2, 48) := by kernel_rfl
theorem pairwise_at {L : List PR} (h : L.Pairwise Apart) {i j : Nat} {x y : PR} (hx : L[i]? = some x) (hy : L[j]? = some y) (hij : i < j) : Apart x y := by
  obtain ⟨hi, rfl⟩ := List.getElem?_eq_some_iff.1 hx
  obtain ⟨hj, rfl⟩ := List.getElem?_eq_some_iff.1 hy
  exact List.pairwise_iff_getElem.1 h i j hi hj hij
end Go.Proofs.Ytigkfmdhmonjlaa
