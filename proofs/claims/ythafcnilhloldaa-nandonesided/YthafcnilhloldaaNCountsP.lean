/-
  The plain heart of P2.7 and P2.8: what is counted, and in which order pages are programmed.
-/
import Derived.Test.YthafcnilhloldaaNEvBad
import Derived.Test.YthafcnilhloldaaNPowP
import Derived.Maps.OwnOps
import Derived.Maps.Views
import Derived.Maps.OwnSet
namespace Go.Proofs.Ythafcnilhloldaa
open Go.RowKit
/-- Whether the law counts an operation by what the call answered. -/
def isB (e : Int) (on on' : Bool) : Bool := (e == 0) || (e == 25) || ((e == 8) && on && !on')
def sumW (l : List BlkS) : Nat := (l.map (·.wear)).sum
theorem sumW_set : ∀ (l : List BlkS) (i : Nat) (k K : BlkS), l[i]? = some k → sumW (l.set i K) + k.wear = sumW l + K.wear
  | [], _, _, _, h => by simp at h
  | a :: r, 0, k, K, h => by
    simp at h
    subst h
    simp [sumW]
    omega
  | a :: r, i + 1, k, K, h => by
    have ih := sumW_set r i k K (by simpa using h)
    simp [sumW] at ih ⊢
    omega
theorem kind_cases {s : St} (h : Kinds s) (n : Nat) : (nextEv s.ev n).kind = 0 ∨ (nextEv s.ev n).kind = 1 ∨ (nextEv s.ev n).kind = 2 := by
  unfold nextEv
  cases hs : s.ev with
  | nil => exact .inl rfl
  | cons e r =>
    dsimp only
    split
    · have := h e (by rw [hs]; simp)
      omega
    · exact .inl rfl
theorem on_cut {s : St} {n : Nat} {on : Bool} (h : (nextEv s.ev n).kind = 2) : onEv s.ev n on = false := by
  unfold nextEv at h
  unfold onEv
  cases hs : s.ev with
  | nil => rw [hs] at h; simp [noEv] at h
  | cons e r =>
    rw [hs] at h
    dsimp only at h ⊢
    split
    · next he => rw [if_pos he] at h; simp [h]
    · next he => rw [if_neg he] at h; simp [noEv] at h
/-- An operation that was done is counted. -/
theorem isB_done {s : St} (h : Kinds s) (bk : Nat) (K : BlkS) (hon : s.on = true) : isB (outE (nextEv s.ev (s.ops + 1)).kind) s.on (stepSt s bk K).on = true := by
  rcases kind_cases h (s.ops + 1) with e | e | e
  · rw [e]; rfl
  · rw [e]; rfl
  · have := on_cut (s := s) (n := s.ops + 1) (on := s.on) e
    show isB _ s.on (onEv s.ev (s.ops + 1) s.on) = true
    rw [e, this, hon]; rfl
theorem isB_reach {nb np : Nat} {on : Bool} {b p : Int} (h : ¬ reachE nb np on b p = 0) : isB (reachE nb np on b p) on on = false := by
  unfold reachE at h ⊢
  cases on with
  | true =>
    simp only [if_true] at h ⊢
    by_cases hc : 0 ≤ b ∧ b < nb ∧ 0 ≤ p ∧ p < np
    · rw [if_pos hc] at h; exact absurd rfl h
    · rw [if_neg hc]; rfl
  | false => rfl
theorem isB_23 (on on' : Bool) : isB 23 on on' = false := by simp [isB]
theorem isB_24 (on on' : Bool) : isB 24 on on' = false := by simp [isB]
theorem lkN_other {s : St} {bk : Nat} {K : BlkS} {t : Int} (h : t ≠ (bk : Int)) : lkN (stepSt s bk K) t = lkN s t := by unfold lkN; rw [stepSt_other h]
theorem lkN_own {s : St} {bk : Nat} {K : BlkS} (h : bk < s.bl.length) : lkN (stepSt s bk K) (bk : Int) = (K.next : Int) := by unfold lkN; rw [stepSt_own h]
/-- What Program counts for. -/
theorem prog_counts {w : World} {c : Nat} {s : St} {bb : Nat} {PV : Nat → Value} (hC : ChipIn w c s bb PV) (hev : Kinds s) (b p : Int) (x : List Nat) :
    (isB (progE s b p) s.on (progSt s b p x).on = false ∧ progSt s b p x = s) ∨
    (isB (progE s b p) s.on (progSt s b p x).on = true ∧ (progSt s b p x).ops = s.ops + 1 ∧ sumW (progSt s b p x).bl = sumW s.bl ∧ (0 ≤ b ∧ b < 256) ∧ (0 ≤ p ∧ p < 32) ∧ lkN s b ≤ p ∧ lkN (progSt s b p x) b = p + 1 ∧ ∀ t, t ≠ b → lkN (progSt s b p x) t = lkN s t) := by
  by_cases hr : reachE s.nb s.np s.on b p = 0
  · obtain ⟨bk, pk, rfl, rfl, hbk, hpk, hon⟩ := reach_ok hr
    obtain ⟨k, hk⟩ := hC.get bk hbk
    have hnb := hC.nbl
    have hnp := hC.npl
    by_cases hbad : k.bad = true
    · refine .inl ?_
      have e1 : progE s bk pk = 23 := by simp [progE, hr, hk, hbad]
      have e2 : progSt s bk pk x = s := by simp [progSt, hr, hk, hbad]
      rw [e1, e2]
      exact ⟨isB_23 _ _, rfl⟩
    · by_cases hlt : (pk : Int) < (k.next : Int)
      · refine .inl ?_
        have hlt' : pk < k.next := by omega
        have e1 : progE s bk pk = 24 := by simp [progE, hr, hk, hbad, hlt']
        have e2 : progSt s bk pk x = s := by simp [progSt, hr, hk, hbad, hlt']
        rw [e1, e2]
        exact ⟨isB_24 _ _, rfl⟩
      · refine .inr ?_
        have hlt' : ¬ pk < k.next := by omega
        have e1 : progE s bk pk = outE (nextEv s.ev (s.ops + 1)).kind := by simp [progE, hr, hk, hbad, hlt']
        have e2 : progSt s bk pk x = stepSt s bk { k with pages := putP k.pages pk (tornX x (nextEv s.ev (s.ops + 1))), next := pk + 1 } := by simp [progSt, hr, hk, hbad, hlt']
        rw [e1, e2]
        have hl : bk < s.bl.length := by rw [hC.bll]; exact hbk
        refine ⟨isB_done hev _ _ hon, rfl, ?_, ⟨by omega, by omega⟩, ⟨by omega, by omega⟩, ?_, ?_, fun t ht => lkN_other ht⟩
        · have := sumW_set s.bl bk k { k with pages := putP k.pages pk (tornX x (nextEv s.ev (s.ops + 1))), next := pk + 1 } hk
          show sumW (s.bl.set bk _) = _
          dsimp only at this ⊢
          omega
        · unfold lkN; rw [blkAt_nat, hk]; show (k.next : Int) ≤ (pk : Int); omega
        · rw [lkN_own hl]; show ((pk + 1 : Nat) : Int) = _; omega
  · refine .inl ?_
    have e1 : progE s b p = reachE s.nb s.np s.on b p := by simp [progE, hr]
    have e2 : progSt s b p x = s := by simp [progSt, hr]
    rw [e1, e2]
    exact ⟨isB_reach hr, rfl⟩
/-- What Erase counts for. -/
theorem erase_counts {w : World} {c : Nat} {s : St} {bb : Nat} {PV : Nat → Value} (hC : ChipIn w c s bb PV) (hev : Kinds s) (b : Int) :
    (isB (eraseE s b) s.on (eraseSt s b).on = false ∧ eraseSt s b = s) ∨
    (isB (eraseE s b) s.on (eraseSt s b).on = true ∧ (eraseSt s b).ops = s.ops + 1 ∧ sumW (eraseSt s b).bl = sumW s.bl + 1 ∧ (0 ≤ b ∧ b < 256) ∧ (¬ eraseE s b = 0 → lkN s b ≤ lkN (eraseSt s b) b) ∧ 0 ≤ lkN (eraseSt s b) b ∧ ∀ t, t ≠ b → lkN (eraseSt s b) t = lkN s t) := by
  by_cases hr : reachE s.nb s.np s.on b 0 = 0
  · obtain ⟨bk, pk, rfl, hp, hbk, hpk, hon⟩ := reach_ok hr
    obtain ⟨k, hk⟩ := hC.get bk hbk
    have hnb := hC.nbl
    have hlim := (hC.lim k (List.mem_of_getElem? hk)).2.1
    by_cases hbad : k.bad = true
    · refine .inl ?_
      have e1 : eraseE s bk = 23 := by simp [eraseE, hr, hk, hbad]
      have e2 : eraseSt s bk = s := by simp [eraseSt, hr, hk, hbad]
      rw [e1, e2]
      exact ⟨isB_23 _ _, rfl⟩
    · refine .inr ?_
      have e1 : eraseE s bk = outE (nextEv s.ev (s.ops + 1)).kind := by simp [eraseE, hr, hk, hbad]
      have e2 : eraseSt s bk = stepSt s bk (erasedB s.np k (nextEv s.ev (s.ops + 1))) := by simp [eraseSt, hr, hk, hbad]
      rw [e1, e2]
      have hl : bk < s.bl.length := by rw [hC.bll]; exact hbk
      have hwear : (erasedB s.np k (nextEv s.ev (s.ops + 1))).wear = k.wear + 1 := by
        unfold erasedB
        split
        · rfl
        · split <;> rfl
      refine ⟨isB_done hev _ _ hon, rfl, ?_, ⟨by omega, by omega⟩, fun hne => ?_, ?_, fun t ht => lkN_other ht⟩
      · have := sumW_set s.bl bk k (erasedB s.np k (nextEv s.ev (s.ops + 1))) hk
        show sumW (s.bl.set bk _) = _
        omega
      · rw [lkN_own hl]
        have : lkN s (bk : Int) = (k.next : Int) := by unfold lkN; rw [blkAt_nat, hk]
        rw [this]
        rcases kind_cases hev (s.ops + 1) with e | e | e
        · rw [e] at hne; exact absurd rfl hne
        · unfold erasedB; rw [if_pos e]; show (k.next : Int) ≤ (s.np : Int); omega
        · unfold erasedB; rw [if_neg (by omega), if_pos e]; show (k.next : Int) ≤ (s.np : Int); omega
      · rw [lkN_own hl]; omega
  · refine .inl ?_
    have e1 : eraseE s b = reachE s.nb s.np s.on b 0 := by simp [eraseE, hr]
    have e2 : eraseSt s b = s := by simp [eraseSt, hr]
    rw [e1, e2]
    exact ⟨isB_reach hr, rfl⟩
/-- What one call of the law counts for. -/
theorem does_counts {w : World} {c : Nat} {s : St} {bb : Nat} {PV : Nat → Value} (hC : ChipIn w c s bb PV) (hev : Kinds s) (o : CallS) (last : Int → Int) (hl : ∀ t, last t ≤ lkN s t) :
    (o.od = 0 → isB (doesE s o) s.on (doesSt s o).on = true → (doesSt s o).ops = s.ops + 1 ∧ sumW (doesSt s o).bl = sumW s.bl ∧ (0 ≤ o.ob ∧ o.ob < 256) ∧ (0 ≤ pgOf s o ∧ pgOf s o < 32) ∧ ¬ pgOf s o < last o.ob ∧ ∀ t, (if t = o.ob then pgOf s o + 1 else last t) ≤ lkN (doesSt s o) t) ∧
    (o.od = 0 → isB (doesE s o) s.on (doesSt s o).on = false → doesSt s o = s) ∧
    (o.od = 1 → isB (doesE s o) s.on (doesSt s o).on = true → (doesSt s o).ops = s.ops + 1 ∧ sumW (doesSt s o).bl = sumW s.bl + 1 ∧ (0 ≤ o.ob ∧ o.ob < 256) ∧ (doesE s o = 0 → ∀ t, (if t = o.ob then 0 else last t) ≤ lkN (doesSt s o) t) ∧ (¬ doesE s o = 0 → ∀ t, last t ≤ lkN (doesSt s o) t)) ∧
    (o.od = 1 → isB (doesE s o) s.on (doesSt s o).on = false → doesSt s o = s) ∧
    (¬ o.od = 0 → ¬ o.od = 1 → (doesSt s o).ops = s.ops ∧ (doesSt s o).bl = s.bl) := by
  have hprog := prog_counts hC hev o.ob (pgOf s o) (fillP o.f)
  have herase := erase_counts hC hev o.ob
  have e0 : o.od = 0 → doesE s o = progE s o.ob (pgOf s o) ∧ doesSt s o = progSt s o.ob (pgOf s o) (fillP o.f) := fun h => ⟨by unfold doesE; rw [if_pos h], by unfold doesSt; rw [if_pos h]⟩
  have e1 : o.od = 1 → doesE s o = eraseE s o.ob ∧ doesSt s o = eraseSt s o.ob := fun h => ⟨by unfold doesE; rw [if_neg (by omega), if_pos h], by unfold doesSt; rw [if_neg (by omega), if_pos h]⟩
  refine ⟨fun h0 hb => ?_, fun h0 hb => ?_, fun h1 hb => ?_, fun h1 hb => ?_, fun h0 h1 => ?_⟩
  · rw [(e0 h0).1, (e0 h0).2] at hb
    rw [(e0 h0).2]
    rcases hprog with ⟨h, _⟩ | ⟨_, p1, p2, p3, p4, p5, p6, p7⟩
    · rw [h] at hb; cases hb
    · refine ⟨p1, p2, p3, p4, by have := hl o.ob; omega, fun t => ?_⟩
      by_cases ht : t = o.ob
      · rw [if_pos ht, ht, p6]; exact Int.le_refl _
      · rw [if_neg ht, p7 t ht]; exact hl t
  · rw [(e0 h0).1, (e0 h0).2] at hb
    rw [(e0 h0).2]
    rcases hprog with ⟨_, h⟩ | ⟨h, _⟩
    · exact h
    · rw [h] at hb; cases hb
  · rw [(e1 h1).1, (e1 h1).2] at hb
    rw [(e1 h1).1, (e1 h1).2]
    rcases herase with ⟨h, _⟩ | ⟨_, p1, p2, p3, p4, p5, p6⟩
    · rw [h] at hb; cases hb
    · refine ⟨p1, p2, p3, fun _ t => ?_, fun hne t => ?_⟩
      · by_cases ht : t = o.ob
        · rw [if_pos ht, ht]; exact p5
        · rw [if_neg ht, p6 t ht]; exact hl t
      · by_cases ht : t = o.ob
        · rw [ht]; have := p4 hne; have := hl o.ob; omega
        · rw [p6 t ht]; exact hl t
  · rw [(e1 h1).1, (e1 h1).2] at hb
    rw [(e1 h1).2]
    rcases herase with ⟨_, h⟩ | ⟨h, _⟩
    · exact h
    · rw [h] at hb; cases hb
  · unfold doesSt
    rw [if_neg h0, if_neg h1]
    split
    · exact ⟨rfl, rfl⟩
    · exact ⟨rfl, rfl⟩
/-- The wears of the blocks, one behind the other. -/
theorem sumW_upto (s : St) (hl : s.bl.length = s.nb) (k : Nat) (hk : k < s.nb) : ((sumW (s.bl.take k) : Nat) : Int) + lkW s (k : Int) = ((sumW (s.bl.take (k + 1)) : Nat) : Int) := by
  have h : k < s.bl.length := by omega
  rw [List.take_succ_eq_append_getElem h]
  have e : lkW s (k : Int) = (s.bl[k].wear : Int) := by unfold lkW; rw [blkAt_nat, List.getElem?_eq_getElem h]
  rw [e]
  simp only [sumW, List.map_append, List.map_cons, List.map_nil, List.sum_append, List.sum_cons, List.sum_nil, Nat.add_zero]
  omega
theorem lkW_le {w : World} {c : Nat} {s : St} {bb : Nat} {PV : Nat → Value} (hC : ChipIn w c s bb PV) (t : Int) : 0 ≤ lkW s t ∧ lkW s t ≤ s.ops := by
  unfold lkW
  cases h : blkAt s t with
  | none => exact ⟨Int.le_refl _, by show (0 : Int) ≤ _; omega⟩
  | some k =>
    obtain ⟨bk, rfl, hbk, hk⟩ := blkAt_in hC.bll h
    have := (hC.lim k (List.mem_of_getElem? hk)).2.2
    show 0 ≤ (k.wear : Int) ∧ (k.wear : Int) ≤ _
    omega
theorem cell_not_map {w : World} {b i mb : Nat} {v : Value} {es : Array MapEntry} {cl : Nat} (h : w.cell? ⟨b, i, none⟩ = some v) (hm : w.heap[mb]? = some (.map es cl)) : b ≠ mb := by
  intro e
  subst e
  simp [World.cell?, hm] at h
theorem EvsIn.beside {S : Nat → Prop} {w w' : World} {p : Option Addr} {n c mb : Nat} {l : List Ev} {es : Array MapEntry} {cl : Nat} (h : EvsIn S w p n c l) (hk : Keep (fun k => k = mb) w w') (hm : w.heap[mb]? = some (.map es cl)) : EvsIn S w' p n c l := by
  refine ⟨h.len, h.cap, h.max, fun h0 => ?_⟩
  obtain ⟨b, o, hp, hl, hS, hc⟩ := h.at' h0
  obtain ⟨e0, he0⟩ : ∃ e, l[0]? = some e := ⟨_, List.getElem?_eq_getElem (by rw [h.len]; exact h0)⟩
  obtain ⟨_, _, _, z0, _⟩ := hc 0 e0 he0
  have hb := hk.block b hl (cell_not_map z0 hm)
  have he : ∀ j, w'.cell? ⟨b, j, none⟩ = w.cell? ⟨b, j, none⟩ := fun j => World.cell?_of_block (a := ⟨b, j, none⟩) hb
  refine ⟨b, o, hp, Nat.lt_of_lt_of_le hl hk.size, hS, fun i e hi => ?_⟩
  obtain ⟨q, m, d, c0, c1, c2, hin, hn⟩ := hc i e hi
  refine ⟨q, m, d, (he _).trans c0, (he _).trans c1, (he _).trans c2, hin.same hk.size (fun a hm0 hq hlt => hk.block a.block hlt ?_), hn⟩
  obtain ⟨b', o', hp', _, hc'⟩ := hin.at' hm0
  rw [hq] at hp'
  cases hp'
  exact cell_not_map (hc' 0 hm0) hm
/-- A chip is left as it is by what turns none of its blocks. -/
theorem ChipOwn.turned {T : Nat → Prop} {c bb mb : Nat} {s : St} {w wr w' : World} {es : Array MapEntry} {cl : Nat} (h : ChipOwn T c bb s w wr) (hg : wr.grownBy w' (some mb)) (hm : T mb) (hlow : w.heap.size ≤ mb) (hmap : wr.heap[mb]? = some (.map es cl)) : ChipOwn T c bb s w w' := by
  obtain ⟨PV, hC, hf, hB, hT⟩ := h
  have hk : Keep (fun k => k = mb) wr w' := Keep.of_grown hg (fun k e _ => by cases e; rfl)
  have hn : ∀ k, k < wr.heap.size → k = mb → ¬ fpOf c bb PV s.nb k := fun k _ e hf' => (hf k hf').2 (e ▸ hm)
  exact ⟨PV, hC.keep hk hn (fun _ _ _ he => he.beside hk hmap), hf, hB.trans (hk.below hB.size (fun k e => by omega)), fun j hj => Nat.lt_of_lt_of_le (hT j hj) hg.size⟩
theorem ownsMap_block {H : Type} {w : World} {P : Program} {k : TypeId} {R : Value → Option (DataW H × List MemPlace)} {b n : Nat} {D : DataW H} (h : w.ownsMap P k R b n D) : ∃ es cl, w.heap[b]? = some (.map es cl) := by
  obtain ⟨es, cl, h, _⟩ := h
  exact ⟨es, cl, h⟩
theorem ownsMap_same {H : Type} {w w' : World} {P : Program} {k : TypeId} {R : Value → Option (DataW H × List MemPlace)} {b n : Nat} {D : DataW H} (h : w.ownsMap P k R b n D) (hb : w'.heap[b]? = w.heap[b]?) : w'.ownsMap P k R b n D := by
  obtain ⟨es, cl, h1, h2⟩ := h
  exact ⟨es, cl, hb.trans h1, h2⟩
end Go.Proofs.Ythafcnilhloldaa
