/-
  A chip and the reference's chip side by side: in one state, apart from each other.
-/
import Derived.Test.YthafcnilhloldaaNClone
import Derived.Test.YthafcnilhloldaaNRMust
import Derived.Test.YthafcnilhloldaaNSameA
namespace Go.Proofs.Ythafcnilhloldaa
open Go.RowKit Go.Shelf
structure Twin (W1 wr : World) (c : Nat) (s : St) (bb : Nat) (PV : Nat → Value) (r : Nat) (t : St) (g cr : Nat) (PR : Nat → Value) : Prop where
  ch : ChipIn wr c s bb PV
  rf : RsIn wr r t g cr PR
  za : ∀ k, fpOf r g PR t.nb k → s.z k
  zb : ∀ k, fpOf c bb PV s.nb k → t.z k
  zn : ∀ k, wr.heap.size ≤ k → s.z k ∧ t.z k
  ap : ∀ k, fpOf c bb PV s.nb k → ¬ fpOf r g PR t.nb k
  lo : ∀ k, fpOf c bb PV s.nb k ∨ fpOf r g PR t.nb k → W1.heap.size ≤ k
  bl : Below W1.heap.size W1 wr
theorem Twin.below {W1 w w' : World} {c : Nat} {s : St} {bb : Nat} {PV : Nat → Value} {r : Nat} {t : St} {g cr : Nat} {PR : Nat → Value} (h : Twin W1 w c s bb PV r t g cr PR) (hb : Below w.heap.size w w') : Twin W1 w' c s bb PV r t g cr PR :=
  ⟨h.ch.below hb, h.rf.below hb, h.za, h.zb, fun k hk => h.zn k (Nat.le_trans hb.size hk), h.ap, h.lo, h.bl.trans (hb.mono h.bl.size)⟩
theorem Twin.keep {W1 w w' : World} {c : Nat} {s : St} {bb : Nat} {PV : Nat → Value} {r : Nat} {t : St} {g cr : Nat} {PR : Nat → Value} (h : Twin W1 w c s bb PV r t g cr PR) (hk : Keep (fun _ => False) w w') : Twin W1 w' c s bb PV r t g cr PR :=
  ⟨h.ch.keep hk (fun _ _ e => e.elim) (fun _ _ _ he => he.keep (T := fun _ => False) hk (fun _ _ e => e.elim)), h.rf.keep hk (fun _ _ e => e.elim) (fun _ _ _ he => he.keep (T := fun _ => False) hk (fun _ _ e => e.elim)), h.za, h.zb, fun k hk' => h.zn k (Nat.le_trans hk.size hk'), h.ap, h.lo, h.bl.trans (hk.below h.bl.size (fun _ e => e.elim))⟩
theorem Twin.does {W1 w w' : World} {c : Nat} {s s' : St} {bb : Nat} {PV : Nat → Value} {r : Nat} {t : St} {g cr : Nat} {PR : Nat → Value} (h : Twin W1 w c s bb PV r t g cr PR) (hA : After w w' c s s' bb PV) (hn : s'.nb = s.nb) (hz : s'.z = s.z) :
    ∃ PV', Twin W1 w' c s' bb PV' r t g cr PR := by
  obtain ⟨PV', hC', hf, hk⟩ := hA
  have hB := h.bl.size
  refine ⟨PV', hC', h.rf.keep hk (fun k _ e => h.ap k e) (fun ep el ec he => he.keep hk (fun k hk' e => .inr (h.zb k e))), ?_, ?_, ?_, ?_, ?_, h.bl.trans (hk.below hB (fun k e => h.lo k (.inl e)))⟩
  · rw [hz]; exact h.za
  · rw [hn]; exact fun k e => (hf k e).elim (h.zb k) (fun e => (h.zn k e).2)
  · rw [hz]; exact fun k e => h.zn k (Nat.le_trans hk.size e)
  · rw [hn]
    intro k e er
    rcases hf k e with e | e
    · exact h.ap k e er
    · have := h.rf.lt er; omega
  · rw [hn]
    rintro k (e | e)
    · rcases hf k e with e | e
      · exact h.lo k (.inl e)
      · omega
    · exact h.lo k (.inr e)
theorem Twin.must {W1 w w' : World} {c : Nat} {s : St} {bb : Nat} {PV : Nat → Value} {r : Nat} {t t' : St} {g cr : Nat} {PR : Nat → Value} (h : Twin W1 w c s bb PV r t g cr PR) (hA : RAft w w' r t t' g cr PR) (hn : t'.nb = t.nb) (hz : t'.z = t.z) :
    ∃ PR', Twin W1 w' c s bb PV r t' g cr PR' := by
  obtain ⟨PR', hC', hf, hk⟩ := hA
  have hB := h.bl.size
  refine ⟨PR', h.ch.keep hk (fun k _ e e2 => h.ap k e2 e) (fun ep el ec he => he.keep hk (fun k hk' e => .inr (h.za k e))), hC', ?_, ?_, ?_, ?_, ?_, h.bl.trans (hk.below hB (fun k e => h.lo k (.inr e)))⟩
  · rw [hn]; exact fun k e => (hf k e).elim (h.za k) (fun e => (h.zn k e).1)
  · rw [hz]; exact h.zb
  · rw [hz]; exact fun k e => h.zn k (Nat.le_trans hk.size e)
  · rw [hn]
    intro k er e
    rcases hf k e with e | e
    · exact h.ap k er e
    · have := h.ch.lt er; omega
  · rw [hn]
    rintro k (e | e)
    · exact h.lo k (.inl e)
    · rcases hf k e with e | e
      · exact h.lo k (.inr e)
      · omega
/-- The clone goes on in the chip's place, whatever becomes of the old one. -/
theorem Twin.fork {W1 w w1 w3 : World} {c : Nat} {s : St} {bb : Nat} {PV : Nat → Value} {r : Nat} {t : St} {g cr : Nat} {PR : Nat → Value} {c' bb' cr' : Nat} {PV' : Nat → Value} (h : Twin W1 w c s bb PV r t g cr PR)
    (hC : ChipIn w1 c' { s with z := fun k => s.z k ∨ fpOf c bb PV s.nb k ∨ w1.heap.size ≤ k, cr := cr' } bb' PV') (hf : ∀ k, fpOf c' bb' PV' s.nb k → w.heap.size ≤ k) (hb : Below w.heap.size w w1) (hk : Keep (fun k => fpOf c bb PV s.nb k ∨ w1.heap.size ≤ k) w1 w3) :
    Twin W1 w3 c' { s with z := fun k => s.z k ∨ fpOf c bb PV s.nb k ∨ w1.heap.size ≤ k, cr := cr' } bb' PV' r t g cr PR := by
  have h1 := h.below hb
  have hs1 := hb.size
  have hs3 := hk.size
  have hB := h.bl.size
  refine ⟨hC.keep hk (fun k hk' e e2 => ?_) (fun ep el ec he => he.keep hk (fun k hk' e => .inr (.inr e))), h1.rf.keep hk (fun k hk' e => e.elim (h.ap k) (fun e => by omega)) (fun ep el ec he => he.keep hk (fun k hk' e => .inr (e.elim (h.zb k) (fun e => by omega)))), fun k e => .inl (h.za k e), fun k e => (h.zn k (hf k e)).2, fun k e => ⟨.inl (h.zn k (by omega)).1, (h.zn k (by omega)).2⟩, fun k e er => ?_, ?_, h1.bl.trans (hk.below h1.bl.size (fun k e => e.elim (fun e => h.lo k (.inl e)) (fun e => by omega)))⟩
  · have h2 := hf k e2
    rcases e with e | e
    · have := h.ch.lt e; omega
    · omega
  · have := hf k e
    have := h.rf.lt er
    omega
  · rintro k (e | e)
    · have := hf k e; omega
    · exact h.lo k (.inr e)
theorem RsIn.setZ {w : World} {r : Nat} {s : St} {g cr : Nat} {PR : Nat → Value} (h : RsIn w r s g cr PR) {z : Nat → Prop} (hz : ∀ k, k < w.heap.size → z k → s.z k ∨ fpOf r g PR s.nb k) : RsIn w r { s with z := z } g cr PR := by
  obtain ⟨ep, el, ec, hc, he⟩ := h.chip
  exact ⟨⟨ep, el, ec, hc, he.mono (fun k hk e => e.elim .inl (fun e => (hz k hk e).symm))⟩, h.blks, h.bll, h.pg, h.ne, h.nec, h.dis, h.nbl, h.npl, h.lim, h.ler⟩
/-- Both chips new. -/
theorem Twin.new {W1 w1 w2 : World} {c : Nat} {s0 : St} {bb : Nat} {PV : Nat → Value} {r : Nat} {g cr : Nat} {PR : Nat → Value} (hb1 : Below W1.heap.size W1 w1) (hC : ChipIn w1 c { s0 with z := fun k => k < W1.heap.size } bb PV) (hfc : ∀ k, fpOf c bb PV s0.nb k → W1.heap.size ≤ k)
    (hb2 : Below w1.heap.size w1 w2) (hR : RsIn w2 r { s0 with z := fun k => k < w1.heap.size } g cr PR) (hfr : ∀ k, fpOf r g PR s0.nb k → w1.heap.size ≤ k) :
    Twin W1 w2 c { s0 with z := fun k => k < W1.heap.size ∨ w1.heap.size ≤ k } bb PV r { s0 with z := fun k => k < w1.heap.size ∨ w2.heap.size ≤ k } g cr PR := by
  have s1 := hb1.size
  have s2 := hb2.size
  refine ⟨(hC.setZ (z := fun k => k < W1.heap.size ∨ w1.heap.size ≤ k) (fun k hk e => .inl (e.elim id (fun e => by omega)))).below hb2, hR.setZ (z := fun k => k < w1.heap.size ∨ w2.heap.size ≤ k) (fun k hk e => .inl (e.elim id (fun e => by omega))), fun k e => .inr (hfr k e), fun k e => .inl (hC.lt e), fun k e => ⟨.inr (by omega), .inr e⟩, fun k e er => ?_, ?_, bt hb1 hb2⟩
  · have := hC.lt e
    have := hfr k er
    omega
  · rintro k (e | e)
    · exact hfc k e
    · have := hfr k e; omega
/-- What a call leaves of the ghosts. -/
theorem progSt_z (s : St) (b p : Int) (x : List Nat) : (progSt s b p x).z = s.z ∧ (progSt s b p x).nb = s.nb := by
  unfold progSt
  split
  · split
    · split
      · exact ⟨rfl, rfl⟩
      · split
        · exact ⟨rfl, rfl⟩
        · exact ⟨rfl, rfl⟩
    · exact ⟨rfl, rfl⟩
  · exact ⟨rfl, rfl⟩
theorem eraseSt_z (s : St) (b : Int) : (eraseSt s b).z = s.z ∧ (eraseSt s b).nb = s.nb := by
  unfold eraseSt
  split
  · split
    · split
      · exact ⟨rfl, rfl⟩
      · exact ⟨rfl, rfl⟩
    · exact ⟨rfl, rfl⟩
  · exact ⟨rfl, rfl⟩
theorem doesSt_z (s : St) (o : CallS) : (doesSt s o).z = s.z ∧ (doesSt s o).nb = s.nb := by
  unfold doesSt
  split
  · exact progSt_z _ _ _ _
  · split
    · exact eraseSt_z _ _
    · split
      · exact ⟨rfl, rfl⟩
      · exact ⟨rfl, rfl⟩
/-- Two states that differ in their ghosts alone. -/
structure Alike (s t : St) : Prop extends SameSt s t where
  ev : t.ev = s.ev
theorem Alike.reach {s t : St} (h : Alike s t) (b p : Int) : reachE t.nb t.np t.on b p = reachE s.nb s.np s.on b p := by rw [h.nb, h.np, h.on]
theorem Alike.lkN {s t : St} (h : Alike s t) (b : Int) : Go.Proofs.Ythafcnilhloldaa.lkN t b = Go.Proofs.Ythafcnilhloldaa.lkN s b := (h.look b).2.1
theorem Alike.step {s t : St} (h : Alike s t) (b : Nat) (k : BlkS) : Alike (stepSt s b k) (stepSt t b k) :=
  ⟨⟨h.nb, h.np, by show t.bl.set b k = s.bl.set b k; rw [h.bl], by show t.ops + 1 = s.ops + 1; rw [h.ops], by show onEv t.ev (t.ops + 1) t.on = onEv s.ev (s.ops + 1) s.on; rw [h.ev, h.ops, h.on]⟩, by show restEv t.ev (t.ops + 1) = restEv s.ev (s.ops + 1); rw [h.ev, h.ops]⟩
theorem Alike.prog {s t : St} (h : Alike s t) (b p : Int) (x : List Nat) : progE t b p = progE s b p ∧ Alike (progSt s b p x) (progSt t b p x) := by
  unfold progE progSt
  rw [h.reach, h.bl, h.ev, h.ops]
  refine ⟨rfl, ?_⟩
  split
  · split
    · split
      · exact h
      · split
        · exact h
        · exact h.step _ _
    · exact h
  · exact h
theorem Alike.erase {s t : St} (h : Alike s t) (b : Int) : eraseE t b = eraseE s b ∧ Alike (eraseSt s b) (eraseSt t b) := by
  unfold eraseE eraseSt
  rw [h.reach, h.bl, h.ev, h.ops, h.np]
  refine ⟨rfl, ?_⟩
  split
  · split
    · split
      · exact h
      · exact h.step _ _
    · exact h
  · exact h
theorem Alike.does {s t : St} (h : Alike s t) (o : CallS) : doesE t o = doesE s o ∧ doesX t o = doesX s o ∧ Alike (doesSt s o) (doesSt t o) := by
  have hp : pgOf t o = pgOf s o := by unfold pgOf; rw [h.lkN]
  have hx : ∀ b p, readX t b p = readX s b p := fun b p => by unfold readX readP; rw [h.reach, h.bl]
  refine ⟨?_, ?_, ?_⟩
  · unfold doesE
    rw [hp, (h.prog _ _ []).1, (h.erase _).1, h.reach]
  · unfold doesX
    rw [hp, hx]
  · unfold doesSt
    rw [hp]
    split
    · exact (h.prog _ _ _).2
    · split
      · exact (h.erase _).2
      · split
        · exact ⟨⟨h.nb, h.np, h.bl, h.ops, rfl⟩, h.ev⟩
        · exact h
/-- The kinds of the events that are to come. -/
def KindsR (s : St) : Prop := ∀ e ∈ s.ev, e.kind = 1 ∨ e.kind = 2
theorem restEv_mem {es : List Ev} {n : Nat} {e : Ev} (h : e ∈ restEv es n) : e ∈ es := by
  unfold restEv at h
  cases es with
  | nil => exact h
  | cons a l =>
    dsimp only at h
    split at h
    · exact List.mem_cons_of_mem _ h
    · exact h
theorem kinds_does {s : St} (h : KindsR s) (o : CallS) : KindsR (doesSt s o) := by
  have hs : ∀ b k, KindsR (stepSt s b k) := fun b k e he => h e (restEv_mem he)
  unfold doesSt
  split
  · unfold progSt
    split
    · split
      · split
        · exact h
        · split
          · exact h
          · exact hs _ _
      · exact h
    · exact h
  · split
    · unfold eraseSt
      split
      · split
        · split
          · exact h
          · exact hs _ _
        · exact h
      · exact h
    · split
      · exact h
      · exact h
theorem does_ops (s : St) (o : CallS) : (doesSt s o).ops ≤ s.ops + 1 := by
  unfold doesSt
  split
  · unfold progSt
    split
    · split
      · split
        · omega
        · split
          · omega
          · exact Nat.le_refl _
      · omega
    · omega
  · split
    · unfold eraseSt
      split
      · split
        · split
          · omega
          · exact Nat.le_refl _
        · omega
      · omega
    · split
      · show s.ops ≤ _; omega
      · omega
end Go.Proofs.Ythafcnilhloldaa
