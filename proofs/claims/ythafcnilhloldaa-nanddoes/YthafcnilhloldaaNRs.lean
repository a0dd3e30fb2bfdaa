/-
  The reference's chip in a world, in any state.
-/
import Derived.Test.YthafcnilhloldaaNDoes
namespace Go.Proofs.Ythafcnilhloldaa
open Go.RowKit Go.Shelf
structure RsIn (w : World) (c : Nat) (s : St) (bb cr : Nat) (PV : Nat → Value) : Prop where
  chip : ∃ ep el ec, Blk w c 85 (chipCells s.nb s.np (.slice (some ⟨bb, 0, none⟩) s.nb cr) (.slice ep el ec) s.ops s.on) ∧ EvsIn (fun k => fpOf c bb PV s.nb k ∨ s.z k) w ep el ec s.ev
  blks : ∃ BC, Blk w bb 87 BC ∧ BC.length = cr * 4 ∧ ∀ i b, s.bl[i]? = some b → BC[i * 4]? = some (PV i) ∧ BC[i * 4 + 1]? = some (.int .i64 (b.wear : Int)) ∧ BC[i * 4 + 2]? = some (.int .i64 (b.next : Int)) ∧ BC[i * 4 + 3]? = some (.bool b.bad)
  bll : s.bl.length = s.nb
  pg : ∀ i b, s.bl[i]? = some b → PagesIn w (PV i) (allP s.np b)
  ne : c ≠ bb
  nec : ∀ i, i < s.nb → ∀ k, (PV i).ownBlock = some k → k ≠ c ∧ k ≠ bb
  dis : ∀ i j, i < s.nb → j < s.nb → i ≠ j → ∀ k, (PV i).ownBlock = some k → (PV j).ownBlock ≠ some k
  nbl : 16 ≤ s.nb ∧ s.nb ≤ 256
  npl : 4 ≤ s.np ∧ s.np ≤ 32
  lim : ∀ b ∈ s.bl, b.pages.length ≤ b.next ∧ b.next ≤ s.np ∧ b.wear ≤ s.ops
  ler : s.nb ≤ cr
theorem RsIn.get {w : World} {c : Nat} {s : St} {bb cr : Nat} {PV : Nat → Value} (h : RsIn w c s bb cr PV) (i : Nat) (hi : i < s.nb) : ∃ k, s.bl[i]? = some k := ⟨_, List.getElem?_eq_getElem (by rw [h.bll]; exact hi)⟩
theorem RsIn.keep {S : Nat → Prop} {w w' : World} {c : Nat} {s : St} {bb cr : Nat} {PV : Nat → Value} (h : RsIn w c s bb cr PV) (hk : Keep S w w') (hS : ∀ k, k < w.heap.size → S k → ¬ fpOf c bb PV s.nb k)
    (hE : ∀ ep el ec, EvsIn (fun k => fpOf c bb PV s.nb k ∨ s.z k) w ep el ec s.ev → EvsIn (fun k => fpOf c bb PV s.nb k ∨ s.z k) w' ep el ec s.ev) : RsIn w' c s bb cr PV := by
  obtain ⟨ep, el, ec, hc, he⟩ := h.chip
  obtain ⟨BC, hB, hl, hcell⟩ := h.blks
  exact ⟨⟨ep, el, ec, hc.keep hk (fun e => hS _ hc.lt e (.inl rfl)), hE _ _ _ he⟩, ⟨BC, hB.keep hk (fun e => hS _ hB.lt e (.inr (.inl rfl))), hl, hcell⟩, h.bll,
    fun i b hb => (h.pg i b hb).same (fun k hk' => hk.block k ((h.pg i b hb).lt hk') (fun e => hS k ((h.pg i b hb).lt hk') e (.inr (.inr ⟨i, by rw [← h.bll]; exact (List.getElem?_eq_some_iff.1 hb).1, hk'⟩)))), h.ne, h.nec, h.dis, h.nbl, h.npl, h.lim, h.ler⟩
theorem RsIn.below {w w' : World} {c : Nat} {s : St} {bb cr : Nat} {PV : Nat → Value} (h : RsIn w c s bb cr PV) (hb : Below w.heap.size w w') : RsIn w' c s bb cr PV :=
  h.keep (S := fun _ => False) (Keep.of_below hb) (fun _ _ e => e.elim) (fun _ _ _ he => he.keep (T := fun _ => False) (Keep.of_below hb) (fun _ _ e => e.elim))
theorem RsIn.step {w wf : World} {c : Nat} {s : St} {bb cr : Nat} {PV : Nat → Value} (h : RsIn w c s bb cr PV) {i : Nat} {K' : BlkS} {v' : Value} {BC' : List Value} {ep : Option Addr} {el ec : Nat} (hi : i < s.nb)
    (hchip : Blk wf c 85 (chipCells s.nb s.np (.slice (some ⟨bb, 0, none⟩) s.nb cr) (.slice ep el ec) (s.ops + 1) (onEv s.ev (s.ops + 1) s.on)))
    (hE : EvsIn (fun k => fpN c bb PV s.nb w.heap.size k ∨ s.z k) wf ep el ec (restEv s.ev (s.ops + 1)))
    (hB : Blk wf bb 87 BC') (hl : BC'.length = cr * 4) (hc : BC'[i * 4]? = some v' ∧ BC'[i * 4 + 1]? = some (.int .i64 (K'.wear : Int)) ∧ BC'[i * 4 + 2]? = some (.int .i64 (K'.next : Int)) ∧ BC'[i * 4 + 3]? = some (.bool K'.bad))
    (hoth : ∀ j b, j ≠ i → s.bl[j]? = some b → BC'[j * 4]? = some (PV j) ∧ BC'[j * 4 + 1]? = some (.int .i64 (b.wear : Int)) ∧ BC'[j * 4 + 2]? = some (.int .i64 (b.next : Int)) ∧ BC'[j * 4 + 3]? = some (.bool b.bad))
    (hp : PagesIn wf v' (allP s.np K')) (hfr : ∀ k, v'.ownBlock = some k → (PV i).ownBlock = some k ∨ w.heap.size ≤ k) (hkeep : Keep (fun k => k = c ∨ k = bb ∨ (PV i).ownBlock = some k) w wf)
    (hlim : K'.pages.length ≤ K'.next ∧ K'.next ≤ s.np ∧ K'.wear ≤ s.ops + 1) : RsIn wf c (stepSt s i K') bb cr (fun j => if j = i then v' else PV j) ∧ (∀ k, fpOf c bb (fun j => if j = i then v' else PV j) s.nb k → fpN c bb PV s.nb w.heap.size k) := by
  obtain ⟨ep0, el0, ec0, hc0, _⟩ := h.chip
  obtain ⟨BC, hB0, _⟩ := h.blks
  have hlc : c < w.heap.size := hc0.lt
  have hlb : bb < w.heap.size := hB0.lt
  have hfp : ∀ k, fpOf c bb (fun j => if j = i then v' else PV j) s.nb k → fpN c bb PV s.nb w.heap.size k := by
    rintro k (e | e | ⟨j, hj, e⟩)
    · exact .inl (.inl e)
    · exact .inl (.inr (.inl e))
    · by_cases hji : j = i
      · simp only [hji, if_true] at e
        rcases hfr k e with e | e
        · exact .inl (.inr (.inr ⟨i, hi, e⟩))
        · exact .inr e
      · simp only [hji, if_false] at e
        exact .inl (.inr (.inr ⟨j, hj, e⟩))
  have hnec : ∀ j, j < s.nb → ∀ k, (if j = i then v' else PV j).ownBlock = some k → k ≠ c ∧ k ≠ bb := by
    intro j hj k e
    by_cases hji : j = i
    · simp only [hji, if_true] at e
      rcases hfr k e with e | e
      · exact h.nec i hi k e
      · omega
    · simp only [hji, if_false] at e
      exact h.nec j hj k e
  have hbl : (stepSt s i K').bl = s.bl.set i K' := rfl
  refine ⟨⟨⟨ep, el, ec, hchip, hE.mono (fun k _ e => e.imp (hfp k) id)⟩, ⟨BC', hB, hl, ?_⟩, ?_, ?_, h.ne, hnec, ?_, h.nbl, h.npl, ?_, h.ler⟩, hfp⟩
  · intro j b hb
    rw [hbl, List.getElem?_set] at hb
    by_cases hji : i = j
    · rw [if_pos hji, if_pos (by rw [h.bll]; exact hi)] at hb
      cases hb
      subst hji
      simpa using hc
    · rw [if_neg hji] at hb
      have := hoth j b (fun e => hji e.symm) hb
      rw [if_neg (fun e => hji e.symm)]
      exact this
  · rw [hbl, List.length_set]; exact h.bll
  · intro j b hb
    rw [hbl, List.getElem?_set] at hb
    by_cases hji : i = j
    · rw [if_pos hji, if_pos (by rw [h.bll]; exact hi)] at hb
      cases hb
      subst hji
      have hp9 : PagesIn wf v' (allP (stepSt s i K').np K') := hp
      simpa using hp9
    · rw [if_neg hji] at hb
      rw [if_neg (fun e => hji e.symm)]
      have hj : j < s.nb := by rw [← h.bll]; exact (List.getElem?_eq_some_iff.1 hb).1
      refine (h.pg j b hb).same (fun k hk => hkeep.block k ((h.pg j b hb).lt hk) ?_)
      rintro (e | e | e)
      · exact (h.nec j hj k hk).1 e
      · exact (h.nec j hj k hk).2 e
      · exact h.dis i j hi hj hji k e hk
  · intro j1 j2 h1 h2 hne k e1 e2
    by_cases e1i : j1 = i
    · have e2i : ¬ j2 = i := fun e => hne (e1i.trans e.symm)
      simp only [e1i, if_true] at e1
      simp only [e2i, if_false] at e2
      rcases hfr k e1 with e | e
      · exact h.dis i j2 hi h2 (fun e => e2i e.symm) k e e2
      · obtain ⟨b, hb⟩ := h.get j2 h2
        have := (h.pg j2 b hb).lt e2
        omega
    · simp only [e1i, if_false] at e1
      by_cases e2i : j2 = i
      · simp only [e2i, if_true] at e2
        rcases hfr k e2 with e | e
        · exact h.dis j1 i h1 hi e1i k e1 e
        · obtain ⟨b, hb⟩ := h.get j1 h1
          have := (h.pg j1 b hb).lt e1
          omega
      · simp only [e2i, if_false] at e2
        exact h.dis j1 j2 h1 h2 hne k e1 e2
  · intro b hb
    rw [hbl] at hb
    rcases List.mem_or_eq_of_mem_set hb with hb | rfl
    · have := h.lim b hb
      exact ⟨this.1, this.2.1, Nat.le_succ_of_le this.2.2⟩
    · exact hlim
def RAft (w w' : World) (c : Nat) (s s' : St) (bb cr : Nat) (PV : Nat → Value) : Prop :=
  ∃ PV', RsIn w' c s' bb cr PV' ∧ (∀ k, fpOf c bb PV' s.nb k → fpN c bb PV s.nb w.heap.size k) ∧ Keep (fpOf c bb PV s.nb) w w'
theorem rop_end {w w1 wf : World} {c : Nat} {s : St} {bb cr : Nat} {PV : Nat → Value} {bk : Nat} {K' : BlkS} {v' : Value} {BC BC' : List Value} {ep : Option Addr} {el ec : Nat} (h : RsIn w c s bb cr PV) (hbk : bk < s.nb)
    (hcell : ∀ i b, s.bl[i]? = some b → BC[i * 4]? = some (PV i) ∧ BC[i * 4 + 1]? = some (.int .i64 (b.wear : Int)) ∧ BC[i * 4 + 2]? = some (.int .i64 (b.next : Int)) ∧ BC[i * 4 + 3]? = some (.bool b.bad)) (hl : BC.length = cr * 4)
    (hk1 : Keep (fun k => k = c) w w1) (hc1 : Blk w1 c 85 (chipCells s.nb s.np (.slice (some ⟨bb, 0, none⟩) s.nb cr) (.slice ep el ec) (s.ops + 1) (onEv s.ev (s.ops + 1) s.on)))
    (he1 : EvsIn (fun k => fpN c bb PV s.nb w.heap.size k ∨ s.z k) w1 ep el ec (restEv s.ev (s.ops + 1))) (hkf : Keep (fun k => k = bb ∨ w.heap.size ≤ k) w1 wf) (hBf : Blk wf bb 87 BC') (hR : RowAt BC BC' bk v' K')
    (hp : PagesIn wf v' (allP s.np K')) (hfr : ∀ k, v'.ownBlock = some k → (PV bk).ownBlock = some k ∨ w.heap.size ≤ k) (hlim : K'.pages.length ≤ K'.next ∧ K'.next ≤ s.np ∧ K'.wear ≤ s.ops + 1) :
    RAft w wf c s (stepSt s bk K') bb cr PV := by
  have hcc : c < w.heap.size := by obtain ⟨_, _, _, hc0, _⟩ := h.chip; exact hc0.lt
  have s1 := hk1.size
  have hkw : Keep (fun k => k = c ∨ k = bb ∨ (PV bk).ownBlock = some k) w wf := (hk1.mono (fun k _ e => .inl e)).trans hkf (fun j hj e => e.elim (fun e => .inr (.inl e)) (fun e => by omega))
  have hk13 : Keep (fpN c bb PV s.nb w.heap.size) w1 wf := hkf.mono (fun k _ e => e.elim (fun e => .inl (.inr (.inl e))) (fun e => .inr e))
  obtain ⟨hci, hfp⟩ := h.step (K' := K') hbk (hc1.keep hkf (fun e => e.elim (fun e => h.ne e) (fun e => by omega))) (he1.keep hk13 (fun _ _ e => .inl e)) hBf (by rw [hR.len, hl]) hR.own
    (by
      intro j b hj hb
      obtain ⟨r0, r1, r2, r3⟩ := hcell j b hb
      refine ⟨?_, ?_, ?_, ?_⟩
      · rw [hR.oth _ (by omega)]; exact r0
      · rw [hR.oth _ (by omega)]; exact r1
      · rw [hR.oth _ (by omega)]; exact r2
      · rw [hR.oth _ (by omega)]; exact r3)
    hp hfr hkw hlim
  refine ⟨_, hci, hfp, hkw.mono ?_⟩
  rintro k _ (e | e | e)
  · exact .inl e
  · exact .inr (.inl e)
  · exact .inr (.inr ⟨bk, hbk, e⟩)
theorem RAft.of {w w0 w1 : World} {c : Nat} {s s' : St} {bb cr : Nat} {PV : Nat → Value} (hb : Below w.heap.size w w0) (h : RAft w0 w1 c s s' bb cr PV) : RAft w w1 c s s' bb cr PV := by
  obtain ⟨PV', hC, hf, hk⟩ := h
  exact ⟨PV', hC, fun k e => (hf k e).imp id (fun e => Nat.le_trans hb.size e), (Keep.of_below hb).trans hk (fun _ _ e => e)⟩
theorem RAft.then {w w0 w1 : World} {c : Nat} {s s' : St} {bb cr : Nat} {PV : Nat → Value} (h : RAft w w0 c s s' bb cr PV) (hb : Below w0.heap.size w0 w1) : RAft w w1 c s s' bb cr PV := by
  obtain ⟨PV', hC, hf, hk⟩ := h
  exact ⟨PV', hC.below hb, hf, hk.trans (Keep.of_below (S := fun _ => False) hb) (fun _ _ e => e.elim)⟩
theorem RAft.same {w w0 w1 : World} {c : Nat} {s s' : St} {bb cr : Nat} {PV : Nat → Value} (h : RAft w w0 c s s' bb cr PV) (hk : Keep (fun _ => False) w0 w1) : RAft w w1 c s s' bb cr PV := by
  obtain ⟨PV', hC, hf, hkk⟩ := h
  exact ⟨PV', hC.keep (S := fun _ => False) hk (fun _ _ e => e.elim) (fun _ _ _ he => he.keep (T := fun _ => False) hk (fun _ _ e => e.elim)), hf, hkk.trans hk (fun _ _ e => e.elim)⟩
theorem Blk.rafter {w w' : World} {c : Nat} {s s' : St} {bb cr : Nat} {PV : Nat → Value} {g : Nat} {t : TypeId} {cs : List Value} (hb : Blk w g t cs) (h : RAft w w' c s s' bb cr PV) (hg : ¬ fpOf c bb PV s.nb g) : Blk w' g t cs := by
  obtain ⟨_, _, _, hk⟩ := h
  exact hb.keep hk hg
end Go.Proofs.Ythafcnilhloldaa
