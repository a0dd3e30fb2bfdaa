/-
  Behind both syncs the disk has what was written last: the plain heart.
-/
import Derived.Test.YtdmnddikcpfmfaaCkOneP
namespace Go.Proofs.Ytdmnddikcpfmfaa
def cleanP (b : BP) : BP := ⟨b.k, b.D, 0, b.pins⟩
theorem map_same {l : List BP} {f : BP → BP} (h : ∀ b ∈ l, f b = b) : l.map f = l := by
  induction l with
  | nil => rfl
  | cons a r ih => rw [List.map_cons, h a (List.mem_cons_self ..), ih (fun b hb => h b (List.mem_cons_of_mem _ hb))]
theorem cleanP_id {b : BP} (h : b.cl = 0) : cleanP b = b := by
  cases b; simp [cleanP] at h ⊢; exact h.symm
theorem clean1_all {l : List BP} {ds : DS} {mu : Int → Option (List Nat)} {N : Nat} (h : OneI l ds mu N) (hp : ∀ b ∈ l, b.pins = 0) {k : Nat} (hk : k < 60) :
    (clean1 l ds (k : Int)).1 = 0 ∧ (clean1 l ds (k : Int)).2.1 = l.map (fun b => if (b.k : Int) = (k : Int) then cleanP b else b) := by
  have hb : hasB ds.secs.length (k : Int) = true := hasB_yes (by rw [h.sl]; exact hk)
  rcases split_p (l := l) k with ⟨p, x, q, hl, hx, hc⟩ | ⟨hno, hc⟩
  · have e : clean1 l ds (k : Int) = if x.cl = 0 then (0, l, ds) else if 0 < x.pins then (101, l, ds) else (writeE ds (x.k : Int) x.D.length, if writeE ds (x.k : Int) x.D.length = 0 then p ++ ⟨x.k, x.D, 0, x.pins⟩ :: q else l, writeS ds (x.k : Int) x.D) := by
      unfold clean1
      rw [if_neg (by rw [hb]; decide), show ((k : Int)).toNat = k from rfl, hc]
    have hkd := h.kd
    rw [hl, map_mid] at hkd
    have hnk : ∀ b, b ∈ p ++ q → ¬ (b.k : Int) = (k : Int) := fun b hb' e' => by
      have : b.k = x.k := by rw [hx]; exact Int.ofNat.inj e'
      exact not_mem_mid hkd (by rw [← this, ← List.map_append]; exact List.mem_map.2 ⟨b, hb', rfl⟩)
    by_cases h0 : x.cl = 0
    · rw [e, if_pos h0]
      refine ⟨rfl, ?_⟩
      rw [map_same (fun b hb' => ?_)]
      split
      · rw [hl] at hb'
        simp at hb'
        rcases hb' with e' | e' | e'
        · exact absurd ‹(b.k : Int) = (k : Int)› (hnk b (by simp [e']))
        · rw [e']; exact cleanP_id h0
        · exact absurd ‹(b.k : Int) = (k : Int)› (hnk b (by simp [e']))
      · rfl
    · have hp0 := hp x (by rw [hl]; simp)
      rw [e, if_neg h0, if_neg (by omega)]
      have h' := h
      rw [hl] at h'
      have e1 := (h'.home h0).1
      refine ⟨e1, ?_⟩
      dsimp only
      rw [if_pos e1, hl, map_mid, if_pos (by rw [hx])]
      rw [map_same (l := p) (fun b hb' => if_neg (hnk b (by simp [hb']))), map_same (l := q) (fun b hb' => if_neg (hnk b (by simp [hb'])))]
      rfl
  · have e : clean1 l ds (k : Int) = (0, l, ds) := by
      unfold clean1
      rw [if_neg (by rw [hb]; decide), show ((k : Int)).toNat = k from rfl, hc]
    rw [e]
    exact ⟨rfl, (map_same (fun b hb' => if_neg (fun e' => hno b hb' (Int.ofNat.inj e')))).symm⟩
theorem cleanL_all {mu : Int → Option (List Nat)} {N : Nat} : ∀ (xs : List Int), (∀ t ∈ xs, ∃ k : Nat, t = (k : Int) ∧ k < 60) → ∀ {l : List BP} {ds : DS}, OneI l ds mu N → (∀ b ∈ l, b.pins = 0) →
    (cleanL l ds xs).1 = 0 ∧ (cleanL l ds xs).2.1 = l.map (fun b => if (b.k : Int) ∈ xs then cleanP b else b)
  | [], _, l, ds, _, _ => ⟨rfl, by show l = _; rw [map_same]; intro b _; rw [if_neg (by simp)]⟩
  | i :: r, hx, l, ds, h, hp => by
    obtain ⟨k, rfl, hk⟩ := hx i (List.mem_cons_self ..)
    obtain ⟨e1, e2⟩ := clean1_all h hp hk
    obtain ⟨h1, _⟩ := one_clean1 h (k : Int)
    have hp1 : ∀ b ∈ (clean1 l ds (k : Int)).2.1, b.pins = 0 := fun b hb => by
      rw [e2] at hb
      obtain ⟨a, ha, rfl⟩ := List.mem_map.1 hb
      split
      · exact hp a ha
      · exact hp a ha
    obtain ⟨e3, e4⟩ := cleanL_all r (fun t ht => hx t (List.mem_cons_of_mem _ ht)) h1 hp1
    rw [cleanL, if_pos e1]
    refine ⟨e3, ?_⟩
    rw [e4, e2, List.map_map]
    apply List.map_congr_left
    intro b _
    simp only [Function.comp]
    by_cases ek : (b.k : Int) = (k : Int)
    · rw [if_pos ek, if_pos (show (b.k : Int) ∈ (k : Int) :: r from by rw [ek]; exact List.mem_cons_self ..)]
      split
      · rfl
      · rfl
    · rw [if_neg ek]
      by_cases er : (b.k : Int) ∈ r
      · rw [if_pos er, if_pos (List.mem_cons_of_mem _ er)]
      · rw [if_neg er, if_neg (fun e => by rcases List.mem_cons.1 e with e | e; exact ek e; exact er e)]
theorem sync_all {l : List BP} {ds : DS} {mu : Int → Option (List Nat)} {N : Nat} (h : OneI l ds mu N) (hp : ∀ b ∈ l, b.pins = 0) (cl : Nat) (hc : cl = 1 ∨ cl = 2) :
    (syncR l ds (cl : Int)).1 = 0 ∧ (syncR l ds (cl : Int)).2.1 = l.map (fun b => if b.cl = cl then cleanP b else b) := by
  have hks : syncKs l ds cl = dirtyKs ds.secs.length l cl := by
    unfold syncKs
    refine List.filter_eq_self.2 (fun t _ => ?_)
    rw [Bool.not_eq_true']
    refine List.any_eq_false.2 (fun b hb => ?_)
    simp [hp b hb]
  have hx : ∀ t ∈ syncKs l ds cl, ∃ k : Nat, t = (k : Int) ∧ k < 60 := fun t ht => by
    rw [hks] at ht
    obtain ⟨b, _, hk, _, e⟩ := dirtyKs_mem.1 ht
    exact ⟨b.k, e.symm, by rw [← h.sl]; exact hk⟩
  obtain ⟨e1, e2⟩ := cleanL_all _ hx h hp
  have hon := (one_cleanL (syncKs l ds cl) h).1.on
  have e : syncR l ds (cl : Int) = (powE (cleanL l ds (syncKs l ds cl)).2.2.on, (cleanL l ds (syncKs l ds cl)).2.1, (cleanL l ds (syncKs l ds cl)).2.2) := by
    unfold syncR
    rw [if_neg (by rcases hc with rfl | rfl <;> decide), show ((cl : Int)).toNat = cl from rfl, if_pos e1]
  rw [e]
  refine ⟨powE_on hon, ?_⟩
  dsimp only
  rw [e2]
  apply List.map_congr_left
  intro b hb
  have : ((b.k : Int) ∈ syncKs l ds cl) ↔ b.cl = cl := by
    rw [hks, dirtyKs_mem]
    constructor
    · rintro ⟨b', hb', _, hc', e⟩
      have : b' = b := nodup_map_inj h.kd hb' hb (Int.ofNat.inj e)
      rw [← this]; exact hc'
    · intro hc'
      exact ⟨b, hb, by rw [h.sl]; exact (h.ok b hb).k, hc', rfl⟩
  by_cases ec : b.cl = cl
  · rw [if_pos (this.2 ec), if_pos ec]
  · rw [if_neg (fun e => ec (this.1 e)), if_neg ec]
theorem pins_zero {l : List BP} (h : pinsOf l = 0) : ∀ b ∈ l, b.pins = 0 := by
  induction l with
  | nil => intro b hb; cases hb
  | cons a r ih =>
    have h' : a.pins + pinsOf r = 0 := by simpa [pinsOf] using h
    intro b hb
    rcases List.mem_cons.1 hb with rfl | hb
    · omega
    · exact ih (by omega) b hb
/-- Behind both syncs. -/
theorem one_end {l : List BP} {ds : DS} {mu : Int → Option (List Nat)} {N : Nat} (h : OneI l ds mu N) (hz : pinsOf l = 0) :
    (syncR l ds 1).1 = 0 ∧ (syncR (syncR l ds 1).2.1 (syncR l ds 1).2.2 2).1 = 0 ∧ OneI (syncR (syncR l ds 1).2.1 (syncR l ds 1).2.2 2).2.1 (syncR (syncR l ds 1).2.1 (syncR l ds 1).2.2 2).2.2 mu N ∧
    ∀ (k : Nat) (D : List Nat), k < 60 → mu (k : Int) = some D → readE (syncR (syncR l ds 1).2.1 (syncR l ds 1).2.2 2).2.2 (k : Int) = 0 ∧ readD (syncR (syncR l ds 1).2.1 (syncR l ds 1).2.2 2).2.2 (k : Int) = D := by
  have hp := pins_zero hz
  obtain ⟨a1, a2⟩ := sync_all h hp 1 (.inl rfl)
  obtain ⟨b1, b2⟩ := one_sync h 1
  have a1' : (syncR l ds 1).1 = 0 := a1
  have a2' : (syncR l ds 1).2.1 = l.map (fun b => if b.cl = 1 then cleanP b else b) := a2
  have hp1 : ∀ b ∈ (syncR l ds 1).2.1, b.pins = 0 := pins_zero (by rw [b2]; exact hz)
  obtain ⟨c1, c2⟩ := sync_all b1 hp1 2 (.inr rfl)
  obtain ⟨d1, d2⟩ := one_sync b1 2
  have c2' : (syncR (syncR l ds 1).2.1 (syncR l ds 1).2.2 2).2.1 = ((syncR l ds 1).2.1).map (fun b => if b.cl = 2 then cleanP b else b) := c2
  have hall : ∀ b ∈ (syncR (syncR l ds 1).2.1 (syncR l ds 1).2.2 2).2.1, b.cl = 0 := by
    intro b hb
    rw [c2', a2', List.map_map] at hb
    obtain ⟨a, ha, rfl⟩ := List.mem_map.1 hb
    have hc := (h.ok a ha).c
    simp only [Function.comp]
    by_cases e1 : a.cl = 1
    · rw [if_pos e1]
      split
      · rfl
      · rfl
    · rw [if_neg e1]
      by_cases e2 : a.cl = 2
      · rw [if_pos e2]; rfl
      · rw [if_neg e2]; omega
  refine ⟨a1', c1, d1, fun k D hk hD => ?_⟩
  obtain ⟨r1, r2⟩ := one_read d1 hk
  refine ⟨r1, r2.trans ?_⟩
  rcases split_p (l := (syncR (syncR l ds 1).2.1 (syncR l ds 1).2.2 2).2.1) k with ⟨p, x, q, hl, hx, _⟩ | ⟨hno, _⟩
  · have hxm : x ∈ (syncR (syncR l ds 1).2.1 (syncR l ds 1).2.2 2).2.1 := by rw [hl]; simp
    have hX := d1.ok x hxm
    rw [← hx, hX.h (hall x hxm), hX.d, hx, hD]; rfl
  · rw [d1.no k hk hno, hD]; rfl
end Go.Proofs.Ytdmnddikcpfmfaa
