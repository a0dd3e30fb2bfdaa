/-
  What Program does.
-/
import Derived.Test.YthafcnilhloldaaNTorn
namespace Go.Proofs.Ythafcnilhloldaa
open Go.RowKit Go.Shelf
/-- A page, behind an event's mask if there is one. -/
def tornX (x : List Nat) (e : Ev) : List Nat := if e.kind = 0 then x else maskL x e.mask
/-- What Program answers. -/
def progE (s : St) (b p : Int) : Int :=
  if reachE s.nb s.np s.on b p = 0 then (match s.bl[b.toNat]? with | some k => if k.bad then 23 else if p < (k.next : Int) then 24 else outE (nextEv s.ev (s.ops + 1)).kind | none => 0) else reachE s.nb s.np s.on b p
/-- A chip behind an operation on a block. -/
def stepSt (s : St) (b : Nat) (k : BlkS) : St := { s with bl := s.bl.set b k, ev := restEv s.ev (s.ops + 1), ops := s.ops + 1, on := onEv s.ev (s.ops + 1) s.on }
/-- The chip behind Program. -/
def progSt (s : St) (b p : Int) (x : List Nat) : St :=
  if reachE s.nb s.np s.on b p = 0 then (match s.bl[b.toNat]? with
    | some k => if k.bad then s else if p < (k.next : Int) then s else stepSt s b.toNat { k with pages := putP k.pages p.toNat (tornX x (nextEv s.ev (s.ops + 1))), next := p.toNat + 1 }
    | none => s) else s
/-- What a chip may write to: its own blocks, and new ones. -/
def fpN (c bb : Nat) (PV : Nat → Value) (nb B : Nat) : Nat → Prop := fun k => fpOf c bb PV nb k ∨ B ≤ k
/-- A chip one of whose blocks has been written anew. -/
theorem ChipIn.step {w wf : World} {c : Nat} {s : St} {bb : Nat} {PV : Nat → Value} (h : ChipIn w c s bb PV) {i : Nat} {K' : BlkS} {v' : Value} {BC' : List Value} {ep : Option Addr} {el ec : Nat} (hi : i < s.nb)
    (hchip : Blk wf c 82 (chipCells s.nb s.np (.slice (some ⟨bb, 0, none⟩) s.nb s.cr) (.slice ep el ec) (s.ops + 1) (onEv s.ev (s.ops + 1) s.on)))
    (hE : EvsIn (fun k => fpN c bb PV s.nb w.heap.size k ∨ s.z k) wf ep el ec (restEv s.ev (s.ops + 1)))
    (hB : Blk wf bb 78 BC') (hl : BC'.length = s.cr * 4) (hc : BC'[i * 4]? = some v' ∧ BC'[i * 4 + 1]? = some (.int .i64 (K'.wear : Int)) ∧ BC'[i * 4 + 2]? = some (.int .i64 (K'.next : Int)) ∧ BC'[i * 4 + 3]? = some (.bool K'.bad))
    (hoth : ∀ j b, j ≠ i → s.bl[j]? = some b → BC'[j * 4]? = some (PV j) ∧ BC'[j * 4 + 1]? = some (.int .i64 (b.wear : Int)) ∧ BC'[j * 4 + 2]? = some (.int .i64 (b.next : Int)) ∧ BC'[j * 4 + 3]? = some (.bool b.bad))
    (hp : PagesIn wf v' K'.pages) (hfr : ∀ k, v'.ownBlock = some k → (PV i).ownBlock = some k ∨ w.heap.size ≤ k) (hkeep : Keep (fun k => k = c ∨ k = bb ∨ (PV i).ownBlock = some k) w wf)
    (hlim : K'.pages.length ≤ K'.next ∧ K'.next ≤ s.np ∧ K'.wear ≤ s.ops + 1) : ChipIn wf c (stepSt s i K') bb (fun j => if j = i then v' else PV j) ∧ (∀ k, fpOf c bb (fun j => if j = i then v' else PV j) s.nb k → fpN c bb PV s.nb w.heap.size k) := by
  obtain ⟨ep0, el0, ec0, hc0, _⟩ := h.chip
  obtain ⟨BC, hB0, _⟩ := h.blks
  have hlc : c < w.heap.size := hc0.lt
  have hlb : bb < w.heap.size := hB0.lt
  have hfp : ∀ k, fpOf c bb (fun j => if j = i then v' else PV j) s.nb k → fpN c bb PV s.nb w.heap.size k := by
    rintro k (e | e | ⟨j, hj, e⟩)
    · exact .inl (.inl e)
    · exact .inl (.inr (.inl e))
    · by_cases hji : j = i
      · simp only [hji, if_true] at e
        rcases hfr k e with e | e
        · exact .inl (.inr (.inr ⟨i, hi, e⟩))
        · exact .inr e
      · simp only [hji, if_false] at e
        exact .inl (.inr (.inr ⟨j, hj, e⟩))
  have hnec : ∀ j, j < s.nb → ∀ k, (if j = i then v' else PV j).ownBlock = some k → k ≠ c ∧ k ≠ bb := by
    intro j hj k e
    by_cases hji : j = i
    · simp only [hji, if_true] at e
      rcases hfr k e with e | e
      · exact h.nec i hi k e
      · omega
    · simp only [hji, if_false] at e
      exact h.nec j hj k e
  have hbl : (stepSt s i K').bl = s.bl.set i K' := rfl
  refine ⟨⟨⟨ep, el, ec, hchip, hE.mono (fun k _ e => e.imp (hfp k) id)⟩, ⟨BC', hB, hl, ?_⟩, ?_, ?_, h.ne, hnec, ?_, h.nbl, h.npl, ?_, h.ler⟩, hfp⟩
  · intro j b hb
    rw [hbl, List.getElem?_set] at hb
    by_cases hji : i = j
    · rw [if_pos hji, if_pos (by rw [h.bll]; exact hi)] at hb
      cases hb
      subst hji
      simpa using hc
    · rw [if_neg hji] at hb
      have := hoth j b (fun e => hji e.symm) hb
      rw [if_neg (fun e => hji e.symm)]
      exact this
  · rw [hbl, List.length_set]; exact h.bll
  · intro j b hb
    rw [hbl, List.getElem?_set] at hb
    by_cases hji : i = j
    · rw [if_pos hji, if_pos (by rw [h.bll]; exact hi)] at hb
      cases hb
      subst hji
      simpa using hp
    · rw [if_neg hji] at hb
      rw [if_neg (fun e => hji e.symm)]
      have hj : j < s.nb := by rw [← h.bll]; exact (List.getElem?_eq_some_iff.1 hb).1
      refine (h.pg j b hb).same (fun k hk => hkeep.block k ((h.pg j b hb).lt hk) ?_)
      rintro (e | e | e)
      · exact (h.nec j hj k hk).1 e
      · exact (h.nec j hj k hk).2 e
      · exact h.dis i j hi hj hji k e hk
  · intro j1 j2 h1 h2 hne k e1 e2
    by_cases e1i : j1 = i
    · have e2i : ¬ j2 = i := fun e => hne (e1i.trans e.symm)
      simp only [e1i, if_true] at e1
      simp only [e2i, if_false] at e2
      rcases hfr k e1 with e | e
      · exact h.dis i j2 hi h2 (fun e => e2i e.symm) k e e2
      · obtain ⟨b, hb⟩ := h.get j2 h2
        have := (h.pg j2 b hb).lt e2
        omega
    · simp only [e1i, if_false] at e1
      by_cases e2i : j2 = i
      · simp only [e2i, if_true] at e2
        rcases hfr k e2 with e | e
        · exact h.dis j1 i h1 hi e1i k e1 e
        · obtain ⟨b, hb⟩ := h.get j1 h1
          have := (h.pg j1 b hb).lt e1
          omega
      · simp only [e2i, if_false] at e2
        exact h.dis j1 j2 h1 h2 hne k e1 e2
  · intro b hb
    rw [hbl] at hb
    rcases List.mem_or_eq_of_mem_set hb with hb | rfl
    · have := h.lim b hb
      exact ⟨this.1, this.2.1, Nat.le_succ_of_le this.2.2⟩
    · exact hlim
end Go.Proofs.Ythafcnilhloldaa
