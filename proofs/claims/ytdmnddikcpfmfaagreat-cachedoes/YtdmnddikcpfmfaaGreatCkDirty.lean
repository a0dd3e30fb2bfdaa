/-
  Which blocks are dirty of a class: collected off the map.
-/
import Derived.Test.YtdmnddikcpfmfaaGreatCkPR
import Derived.Maps.RangeWalk
namespace Go.Proofs.YtdmnddikcpfmfaaGreat
open Go.RowKit Go.Maps Go.Shelf
/-- The blocks that are dirty of a class, rising. -/
def dirtyKs (n : Nat) (l : List BP) (cl : Nat) : List Int := ((List.range n).filter (fun k => l.any (fun b => decide (b.k = k) && decide (b.cl = cl)))).map (fun k : Nat => (k : Int))
theorem dirtyKs_mem {n : Nat} {l : List BP} {cl : Nat} {t : Int} : t ∈ dirtyKs n l cl ↔ ∃ b ∈ l, b.k < n ∧ b.cl = cl ∧ (b.k : Int) = t := by
  simp only [dirtyKs, List.mem_map, List.mem_filter, List.mem_range, List.any_eq_true, Bool.and_eq_true, decide_eq_true_eq]
  constructor
  · rintro ⟨k, ⟨hk, b, hb, rfl, hc⟩, rfl⟩
    exact ⟨b, hb, hk, hc, rfl⟩
  · rintro ⟨b, hb, hk, hc, rfl⟩
    exact ⟨b.k, ⟨hk, b, hb, rfl, hc⟩, rfl⟩
theorem dirtyKs_rise (n : Nat) (l : List BP) (cl : Nat) : (dirtyKs n l cl).Pairwise (· < ·) := by
  unfold dirtyKs
  rw [List.pairwise_map]
  refine ((List.pairwise_lt_range (n := n)).filter _).imp ?_
  intro a b h
  omega
theorem dirtyKs_nodup (n : Nat) (l : List BP) (cl : Nat) : (dirtyKs n l cl).Nodup := (dirtyKs_rise n l cl).imp (fun h => by omega)
theorem dirtyKs_len (n : Nat) (l : List BP) (cl : Nat) : (dirtyKs n l cl).length ≤ n := by
  unfold dirtyKs
  rw [List.length_map]
  have := List.length_filter_le (fun k => l.any (fun b => decide (b.k = k) && decide (b.cl = cl))) (List.range n)
  simpa using this
def sortL (xs : List Int) : List Int := xs.mergeSort fun x y => decide (x ≤ y)
theorem sortL_eq {n : Nat} {l : List BP} {cl : Nat} {ks : List Int} (hn : ks.Nodup) (hm : ∀ t, t ∈ ks ↔ t ∈ dirtyKs n l cl) : sortL ks = dirtyKs n l cl := by
  have hp : ks.Perm (dirtyKs n l cl) := (List.perm_ext_iff_of_nodup hn (dirtyKs_nodup n l cl)).2 hm
  have h1 : (sortL ks).Perm (dirtyKs n l cl) := (List.mergeSort_perm ks _).trans hp
  have h2 : (sortL ks).Pairwise (· ≤ ·) := by
    have := List.pairwise_mergeSort (le := fun x y : Int => decide (x ≤ y)) (fun a b c h1 h2 => by simp at h1 h2 ⊢; omega) (fun a b => by simp; omega) ks
    exact this.imp (fun h => by simpa using h)
  exact h1.eq_of_pairwise (le := (· ≤ ·)) (fun a b _ _ h h' => by omega) h2 ((dirtyKs_rise n l cl).imp (fun h => by omega))
theorem nodup_map_inj {α β : Type} {f : α → β} : ∀ {L : List α}, (L.map f).Nodup → ∀ {x y : α}, x ∈ L → y ∈ L → f x = f y → x = y
  | [], _, x, y, hx, _, _ => by cases hx
  | a :: r, h, x, y, hx, hy, e => by
    rw [List.map_cons, List.nodup_cons] at h
    rcases List.mem_cons.1 hx with e1 | h1
    · rcases List.mem_cons.1 hy with e2 | h2
      · rw [e1, e2]
      · exact absurd (List.mem_map.2 ⟨y, h2, by rw [← e, e1]⟩) h.1
    · rcases List.mem_cons.1 hy with e2 | h2
      · exact absurd (List.mem_map.2 ⟨x, h1, by rw [e, e2]⟩) h.1
      · exact nodup_map_inj h.2 h1 h2 e
/-- What was collected so far: those of the class that are no longer to come. -/
structure Coll (L : List BufS) (cl : Nat) (left : Lit → Bool) (ks : List Int) : Prop where
  nd : ks.Nodup
  mem : ∀ t : Int, t ∈ ks ↔ ∃ x ∈ L, (x.b.k : Int) = t ∧ x.b.cl = cl ∧ left (.int .i64 t) = false
theorem Coll.yes {L : List BufS} {cl : Nat} {left : Lit → Bool} {ks : List Int} (h : Coll L cl left ks) {x : BufS} (hx : x ∈ L) (hc : x.b.cl = cl) (hl : left (.int .i64 (x.b.k : Int)) = true) : Coll L cl (fun z => left z && !z.sameKey (.int .i64 (x.b.k : Int))) (ks ++ [(x.b.k : Int)]) := by
  have hno : (x.b.k : Int) ∉ ks := fun hm => by
    obtain ⟨y, _, e, _, hf⟩ := (h.mem _).1 hm
    rw [hl] at hf; cases hf
  refine ⟨List.nodup_append.2 ⟨h.nd, by simp, fun a ha b hb => by simp at hb; rintro rfl; exact hno (hb ▸ ha)⟩, fun t => ?_⟩
  rw [List.mem_append, List.mem_singleton, h.mem]
  constructor
  · rintro (⟨y, hy, e, hyc, hf⟩ | rfl)
    · exact ⟨y, hy, e, hyc, by simp [hf]⟩
    · exact ⟨x, hx, rfl, hc, by simp [WideAt.sameKey_self (keyLit_int (x.b.k : Int))]⟩
  · rintro ⟨y, hy, e, hyc, hf⟩
    by_cases et : t = (x.b.k : Int)
    · exact .inr et
    · refine .inl ⟨y, hy, e, hyc, ?_⟩
      have := sameKey_ne (a := Lit.int .i64 t) (b := .int .i64 (x.b.k : Int)) (fun h => et (Lit.int.inj h).2)
      simpa [this] using hf
theorem Coll.no {L : List BufS} {cl : Nat} {left : Lit → Bool} {ks : List Int} (h : Coll L cl left ks) (hkd : (L.map (·.b.k)).Nodup) {x : BufS} (hx : x ∈ L) (hc : ¬ x.b.cl = cl) : Coll L cl (fun z => left z && !z.sameKey (.int .i64 (x.b.k : Int))) ks := by
  refine ⟨h.nd, fun t => ?_⟩
  rw [h.mem]
  constructor
  · rintro ⟨y, hy, e, hyc, hf⟩
    exact ⟨y, hy, e, hyc, by simp [hf]⟩
  · rintro ⟨y, hy, e, hyc, hf⟩
    refine ⟨y, hy, e, hyc, ?_⟩
    have et : t ≠ (x.b.k : Int) := by
      rintro rfl
      have hk : y.b.k = x.b.k := Int.ofNat.inj e
      have : y = x := by
        exact nodup_map_inj hkd hy hx hk
      rw [this] at hyc
      exact hc hyc
    have := sameKey_ne (a := Lit.int .i64 t) (b := .int .i64 (x.b.k : Int)) (fun h => et (Lit.int.inj h).2)
    simpa [this] using hf
theorem invPtr (v : Value) (y : DataW Unit × List MemPlace) (h : ptrElem v = some y) : ∃ c : Option Addr, v = .pointer c := by
  rcases ptrElem_inv h with ⟨rfl, _⟩ | ⟨g, rfl, _⟩
  · exact ⟨_, rfl⟩
  · exact ⟨_, rfl⟩
theorem invKey (key : Value) (kl : Lit) (h : keyOf Tryz.prog 3 key = some kl) : ∃ x : Int, key = .int .i64 x := by
  obtain ⟨x, rfl, _⟩ := Maps.keyOf_int_inv Tryz.underlying3 h
  exact ⟨x, rfl⟩
end Go.Proofs.YtdmnddikcpfmfaaGreat
