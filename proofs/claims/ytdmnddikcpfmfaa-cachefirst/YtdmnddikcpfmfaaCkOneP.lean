/-
  What is read is what was written last: the plain heart.
-/
import Derived.Test.YtdmnddikcpfmfaaCkSync
namespace Go.Proofs.Ytdmnddikcpfmfaa
def secD (ds : DS) (k : Nat) : List Nat := (ds.secs.getD k ([], false)).1
/-- A buffer is as it must be. -/
structure OkB (ds : DS) (mu : Int → Option (List Nat)) (N : Nat) (b : BP) : Prop where
  k : b.k < 60
  l : b.D.length = 256
  d : b.D = (mu (b.k : Int)).getD z256
  c : b.cl ≤ 2
  p : b.pins ≤ N
  h : b.cl = 0 → secD ds b.k = b.D
structure OneI (l : List BP) (ds : DS) (mu : Int → Option (List Nat)) (N : Nat) : Prop where
  on : ds.on = true
  lf : ds.left = -1
  sl : ds.secs.length = 60
  hurt : ∀ x ∈ ds.secs, x.2 = false
  kd : (l.map (·.k)).Nodup
  ok : ∀ b ∈ l, OkB ds mu N b
  no : ∀ k, k < 60 → (∀ b ∈ l, b.k ≠ k) → secD ds k = (mu (k : Int)).getD z256
  wr : ds.writes + dirtyN l ≤ N
theorem dirtyN_app (p q : List BP) : dirtyN (p ++ q) = dirtyN p + dirtyN q := by simp [dirtyN]
def d1 (x : BP) : Nat := if x.cl = 0 then 0 else 1
theorem dirtyN_one (x : BP) (q : List BP) : dirtyN (x :: q) = d1 x + dirtyN q := by
  unfold dirtyN d1
  rw [List.countP_cons]
  by_cases h : x.cl = 0 <;> simp [h]
  omega
theorem dirtyN_nil : dirtyN [] = 0 := rfl
def pinsOf (l : List BP) : Nat := (l.map (·.pins)).sum
theorem OkB.mono {ds : DS} {mu : Int → Option (List Nat)} {N N' : Nat} {b : BP} (h : OkB ds mu N b) (hN : N ≤ N') : OkB ds mu N' b := ⟨h.k, h.l, h.d, h.c, Nat.le_trans h.p hN, h.h⟩
theorem OneI.mono {l : List BP} {ds : DS} {mu : Int → Option (List Nat)} {N N' : Nat} (h : OneI l ds mu N) (hN : N ≤ N') : OneI l ds mu N' := ⟨h.on, h.lf, h.sl, h.hurt, h.kd, fun b hb => (h.ok b hb).mono hN, h.no, Nat.le_trans h.wr hN⟩
theorem one_wE {ds : DS} {k : Nat} {D : List Nat} (h1 : ds.on = true) (h2 : ds.left = -1) (h3 : ds.secs.length = 60) (hk : k < 60) (hD : D.length = 256) : writeE ds (k : Int) D.length = 0 ∧ writeS ds (k : Int) D = putS { ds with left := -1 } k D := by
  have hb : hasB ds.secs.length (k : Int) = true := hasB_yes (by omega)
  constructor
  · simp [writeE, h1, hb, hD, h2]
  · simp [writeS, h1, hb, hD, h2, lessL]
theorem secD_put {ds : DS} {k j : Nat} {D : List Nat} (hk : k < ds.secs.length) : secD (putS { ds with left := -1 } k D) j = if j = k then D else secD ds j := by
  unfold secD putS
  simp only [List.getD_eq_getElem?_getD, List.getElem?_set]
  by_cases e : k = j
  · subst e; simp [hk]
  · rw [if_neg e, if_neg (fun h => e h.symm)]
/-- A dirty buffer went home. -/
theorem OneI.home {p q : List BP} {x : BP} {ds : DS} {mu : Int → Option (List Nat)} {N : Nat} (h : OneI (p ++ x :: q) ds mu N) (hx : x.cl ≠ 0) :
    writeE ds (x.k : Int) x.D.length = 0 ∧ OneI (p ++ ⟨x.k, x.D, 0, x.pins⟩ :: q) (writeS ds (x.k : Int) x.D) mu N := by
  have hX := h.ok x (by simp)
  obtain ⟨e1, e2⟩ := one_wE h.on h.lf h.sl hX.k hX.l
  refine ⟨e1, ?_⟩
  rw [e2]
  have hkd := h.kd
  rw [map_mid] at hkd
  have hs := fun j => secD_put (ds := ds) (k := x.k) (j := j) (D := x.D) (by rw [h.sl]; exact hX.k)
  have hkd2 : ((p ++ (⟨x.k, x.D, 0, x.pins⟩ : BP) :: q).map (·.k)).Nodup := by rw [map_mid]; exact hkd
  refine ⟨h.on, rfl, by show (ds.secs.set _ _).length = 60; rw [List.length_set]; exact h.sl, fun y hy => ?_, hkd2, fun b hb => ?_, fun k hk hno => ?_, ?_⟩
  · rcases List.mem_or_eq_of_mem_set hy with e | e
    · exact h.hurt y e
    · rw [e]
  · simp at hb
    rcases hb with e | rfl | e
    · have hb' := h.ok b (by simp [e])
      refine ⟨hb'.k, hb'.l, hb'.d, hb'.c, hb'.p, fun hc => ?_⟩
      rw [hs, if_neg (fun e' => not_mem_mid hkd (by rw [← e']; exact List.mem_append_left _ (List.mem_map.2 ⟨b, e, rfl⟩)))]
      exact hb'.h hc
    · refine ⟨hX.k, hX.l, hX.d, Nat.zero_le _, hX.p, fun _ => ?_⟩
      rw [hs, if_pos rfl]
    · have hb' := h.ok b (by simp [e])
      refine ⟨hb'.k, hb'.l, hb'.d, hb'.c, hb'.p, fun hc => ?_⟩
      rw [hs, if_neg (fun e' => not_mem_mid hkd (by rw [← e']; exact List.mem_append_right _ (List.mem_map.2 ⟨b, e, rfl⟩)))]
      exact hb'.h hc
  · have hne : k ≠ x.k := fun e => hno ⟨x.k, x.D, 0, x.pins⟩ (by simp) e.symm
    rw [hs, if_neg hne]
    refine h.no k hk (fun b hb => ?_)
    simp at hb
    rcases hb with e | rfl | e
    · exact hno b (by simp [e])
    · exact fun e => hne e.symm
    · exact hno b (by simp [e])
  · have := h.wr
    show ds.writes + 1 + _ ≤ N
    simp [dirtyN, hx] at this ⊢
    omega
/-- A clean buffer goes. -/
theorem OneI.gone {p q : List BP} {x : BP} {ds : DS} {mu : Int → Option (List Nat)} {N : Nat} (h : OneI (p ++ x :: q) ds mu N) (hx : x.cl = 0) : OneI (p ++ q) ds mu N := by
  have hX := h.ok x (by simp)
  have hkd := h.kd
  rw [map_mid] at hkd
  refine ⟨h.on, h.lf, h.sl, h.hurt, by rw [List.map_append]; exact nodup_out hkd, fun b hb => h.ok b (by simp at hb ⊢; rcases hb with e | e; exact .inl e; exact .inr (.inr e)), fun k hk hno => ?_, ?_⟩
  · by_cases e : k = x.k
    · subst e
      rw [hX.h hx]
      exact hX.d
    · refine h.no k hk (fun b hb => ?_)
      simp at hb
      rcases hb with e' | rfl | e'
      · exact hno b (by simp [e'])
      · exact fun e' => e e'.symm
      · exact hno b (by simp [e'])
  · have := h.wr
    simp [dirtyN, hx] at this ⊢
    omega
theorem pinsOf_mid (p q : List BP) (x : BP) : pinsOf (p ++ x :: q) = pinsOf p + x.pins + pinsOf q := by simp [pinsOf]; omega
theorem pinsOf_app (p q : List BP) : pinsOf (p ++ q) = pinsOf p + pinsOf q := by simp [pinsOf]
theorem one_room {l : List BP} {ds : DS} {mu : Int → Option (List Nat)} {N : Nat} (h : OneI l ds mu N) (r : Nat) : OneI (roomR r l ds).2.1 (roomR r l ds).2.2 mu N ∧ pinsOf (roomR r l ds).2.1 = pinsOf l := by
  rcases roomR_cases r l ds with ⟨e, _⟩ | ⟨e, _⟩ | ⟨p, x, q, hl, _, hg, _, ⟨hc, e⟩ | ⟨hc, _, e⟩ | ⟨hc, hE, e⟩⟩
  · rw [e]; exact ⟨h, rfl⟩
  · rw [e]; exact ⟨h, rfl⟩
  · rw [e]
    subst hl
    have hp0 : x.pins = 0 := by simp [goesB] at hg; exact hg.1
    exact ⟨h.gone hc, by rw [pinsOf_mid, pinsOf_app, hp0]; omega⟩
  · rw [e]
    subst hl
    have hp0 : x.pins = 0 := by simp [goesB] at hg; exact hg.1
    exact ⟨(h.home hc).2.gone rfl, by rw [pinsOf_mid, pinsOf_app, hp0]; omega⟩
  · subst hl
    exact absurd (h.home hc).1 hE
/-- The order counts for nothing. -/
theorem OneI.last {p q : List BP} {x : BP} {ds : DS} {mu : Int → Option (List Nat)} {N : Nat} (h : OneI (p ++ x :: q) ds mu N) : OneI (p ++ q ++ [x]) ds mu N := by
  have hkd := h.kd
  rw [map_mid] at hkd
  have hm : ∀ b, b ∈ p ++ q ++ [x] ↔ b ∈ p ++ x :: q := fun b => by
    simp only [List.mem_append, List.mem_cons]
    constructor
    · rintro ((e | e) | e)
      · exact .inl e
      · exact .inr (.inr e)
      · exact .inr (.inl (by simpa using e))
    · rintro (e | e | e)
      · exact .inl (.inl e)
      · exact .inr (.inl e)
      · exact .inl (.inr e)
  refine ⟨h.on, h.lf, h.sl, h.hurt, by rw [List.map_append, List.map_append]; exact nodup_move hkd, fun b hb => h.ok b ((hm b).1 hb), fun k hk hno => h.no k hk (fun b hb => hno b ((hm b).2 hb)), ?_⟩
  have := h.wr
  rw [dirtyN_app, dirtyN_one] at this
  rw [dirtyN_app, dirtyN_app, dirtyN_one, dirtyN_nil]
  omega
/-- A block's new buffer. -/
theorem OneI.add {l : List BP} {ds : DS} {mu : Int → Option (List Nat)} {N : Nat} (h : OneI l ds mu N) {k : Nat} (hno : ∀ b ∈ l, b.k ≠ k) (D : List Nat) (cl : Nat) (mu' : Int → Option (List Nat)) (N' : Nat) (hN : N ≤ N') (hb : OkB ds mu' N' ⟨k, D, cl, 0⟩) (hmu : ∀ j : Nat, j ≠ k → mu' (j : Int) = mu (j : Int)) (hw : ds.writes + dirtyN (l ++ [⟨k, D, cl, 0⟩]) ≤ N') : OneI (l ++ [⟨k, D, cl, 0⟩]) ds mu' N' := by
  refine ⟨h.on, h.lf, h.sl, h.hurt, ?_, fun b hb' => ?_, fun j hj hn => ?_, hw⟩
  · rw [List.map_append]
    refine List.nodup_append.2 ⟨h.kd, by simp, fun a ha b hb' => ?_⟩
    simp at hb'
    obtain ⟨y, hy, rfl⟩ := List.mem_map.1 ha
    rw [hb']
    exact hno y hy
  · rcases List.mem_append.1 hb' with e | e
    · have hB := h.ok b e
      exact ⟨hB.k, hB.l, by rw [hmu _ (hno b e)]; exact hB.d, hB.c, Nat.le_trans hB.p hN, hB.h⟩
    · rw [List.mem_singleton.1 e]; exact hb
  · have hjk : j ≠ k := fun e => hn ⟨k, D, cl, 0⟩ (by simp) e.symm
    rw [hmu j hjk]
    exact h.no j hj (fun b hb' => hn b (by simp [hb']))
theorem split_p {l : List BP} (k : Nat) : (∃ p x q, l = p ++ x :: q ∧ x.k = k ∧ cutAt (isK k) l = some (p, x, q)) ∨ ((∀ x ∈ l, x.k ≠ k) ∧ cutAt (isK k) l = none) := by
  cases hc : cutAt (isK k) l with
  | some t =>
    obtain ⟨p, x, q⟩ := t
    obtain ⟨e1, e2, _⟩ := cutAt_spec hc
    exact .inl ⟨p, x, q, e1, by simpa [isK] using e2, rfl⟩
  | none =>
    refine .inr ⟨fun x hx e => ?_, rfl⟩
    have : ∀ l : List BP, cutAt (isK k) l = none → ∀ y ∈ l, isK k y = false := by
      intro l
      induction l with
      | nil => intro _ y hy; simp at hy
      | cons a l ih =>
        intro hn y hy
        rw [cutAt] at hn
        split at hn
        · simp at hn
        · next ha =>
          rcases List.mem_cons.1 hy with rfl | hy
          · simpa using ha
          · exact ih (by simpa using hn) y hy
    have := this l hc x hx
    simp [isK, e] at this
theorem one_read {l : List BP} {ds : DS} {mu : Int → Option (List Nat)} {N : Nat} (h : OneI l ds mu N) {k : Nat} (hk : k < 60) : readE ds (k : Int) = 0 ∧ readD ds (k : Int) = secD ds k := by
  have hk' : k < ds.secs.length := by rw [h.sl]; exact hk
  have hx : ds.secs[k]? = some ds.secs[k] := List.getElem?_eq_getElem hk'
  have hh := h.hurt _ (List.mem_of_getElem? hx)
  refine ⟨by rw [readE_at h.on hx, hh]; rfl, ?_⟩
  rw [readD_at h.on hx hh]
  simp [secD, List.getD_eq_getElem?_getD, hx]
theorem lastD_snoc (l : List BP) (x : BP) : lastD (l ++ [x]) = x.D := by simp [lastD]
theorem one_fetchR {l : List BP} {ds : DS} {mu : Int → Option (List Nat)} {N : Nat} (h : OneI l ds mu N) (r : Nat) (hL2 : ∀ k, k < 60 → (secD (roomR r l ds).2.2 k).length = 256) {k : Nat} (hk : k < 60) :
    OneI (fetchR r l ds k).2.1 (fetchR r l ds k).2.2 mu N ∧ pinsOf (fetchR r l ds k).2.1 = pinsOf l ∧ ((fetchR r l ds k).1 = 0 → (∃ p x, (fetchR r l ds k).2.1 = p ++ [x] ∧ x.D = (mu (k : Int)).getD z256)) := by
  unfold fetchR
  rcases split_p (l := l) k with ⟨p, x, q, hl, hx, hc⟩ | ⟨hno, hc⟩
  · rw [hc]
    subst hl
    subst hx
    exact ⟨h.last, by rw [pinsOf_mid, pinsOf_app, pinsOf_app]; simp [pinsOf]; omega, fun _ => ⟨_, x, rfl, (h.ok x (by simp)).d⟩⟩
  · rw [hc]
    obtain ⟨h1, h2⟩ := one_room h r
    have hsub := roomR_sub r l ds
    generalize roomR r l ds = R at *
    obtain ⟨E, l1, d1⟩ := R
    dsimp only at *
    obtain ⟨r1, r2⟩ := one_read h1 hk
    have hno1 : ∀ b ∈ l1, b.k ≠ k := fun b hb => hno b (hsub b hb)
    by_cases hE : E = 0
    · rw [if_pos hE, if_pos r1, r2]
      have hd := h1.no k hk hno1
      refine ⟨h1.add hno1 _ 0 mu N (Nat.le_refl _) ⟨hk, hL2 k hk, hd, by simp, Nat.zero_le _, fun _ => rfl⟩ (fun _ _ => rfl) (by have := h1.wr; rw [dirtyN_app, dirtyN_one, dirtyN_nil]; simpa [Go.Proofs.Ytdmnddikcpfmfaa.d1] using this), by rw [pinsOf_app]; simpa [pinsOf] using h2, fun _ => ⟨_, _, rfl, hd⟩⟩
    · rw [if_neg hE]
      exact ⟨h1, h2, fun e => absurd e hE⟩
theorem one_fetch {l : List BP} {ds : DS} {mu : Int → Option (List Nat)} {N : Nat} (h : OneI l ds mu N) (r : Nat) (hL2 : ∀ k, k < 60 → (secD (roomR r l ds).2.2 k).length = 256) (i : Int) :
    OneI (fetC r l ds i).2.1 (fetC r l ds i).2.2 mu N ∧ pinsOf (fetC r l ds i).2.1 = pinsOf l ∧ ((fetC r l ds i).1 = 0 → (∃ p x, (fetC r l ds i).2.1 = p ++ [x] ∧ x.D = (mu i).getD z256)) := by
  cases hh : hasB ds.secs.length i
  · rw [show fetC r l ds i = (1, l, ds) from if_pos hh]
    exact ⟨h, rfl, fun e => by cases e⟩
  · obtain ⟨k, rfl, hk⟩ := hasB_nat hh
    rw [show fetC r l ds (k : Int) = fetchR r l ds k from if_neg (by rw [hh]; decide)]
    exact one_fetchR h r hL2 (by rw [← h.sl]; exact hk)
theorem one_pin {l : List BP} {ds : DS} {mu : Int → Option (List Nat)} {N : Nat} (h : OneI l ds mu N) (r : Nat) (hL2 : ∀ k, k < 60 → (secD (roomR r l ds).2.2 k).length = 256) (i : Int) :
    OneI (pinC r l ds i).2.1 (pinC r l ds i).2.2 mu (N + 1) ∧ pinsOf (pinC r l ds i).2.1 = pinsOf l + (if (pinC r l ds i).1 = 0 then 1 else 0) := by
  obtain ⟨h1, h2, h3⟩ := one_fetch h r hL2 i
  unfold pinC
  generalize fetC r l ds i = F at *
  obtain ⟨E, l1, d1⟩ := F
  dsimp only at *
  by_cases hE : E = 0
  · obtain ⟨p, x, e, _⟩ := h3 hE
    subst e
    rw [if_pos hE, if_pos hE, pinLast_snoc]
    have hX := h1.ok x (by simp)
    refine ⟨⟨h1.on, h1.lf, h1.sl, h1.hurt, by have := h1.kd; simpa using this, fun b hb => ?_, fun k hk hno => h1.no k hk (fun b hb => ?_), ?_⟩, ?_⟩
    · rcases List.mem_append.1 hb with e | e
      · exact (h1.ok b (List.mem_append_left _ e)).mono (Nat.le_succ _)
      · rw [List.mem_singleton.1 e]
        exact ⟨hX.k, hX.l, hX.d, hX.c, by show x.pins + 1 ≤ N + 1; have := hX.p; omega, hX.h⟩
    · rcases List.mem_append.1 hb with e | e
      · exact hno b (List.mem_append_left _ e)
      · rw [List.mem_singleton.1 e]; exact hno ⟨x.k, x.D, x.cl, x.pins + 1⟩ (by simp)
    · have := h1.wr
      rw [dirtyN_app, dirtyN_one, dirtyN_nil] at this ⊢
      simp only [Go.Proofs.Ytdmnddikcpfmfaa.d1] at this ⊢
      omega
    · rw [← h2, pinsOf_app, pinsOf_app]
      simp [pinsOf]
      omega
  · rw [if_neg hE, if_neg hE]
    exact ⟨h1.mono (Nat.le_succ _), by rw [h2]; rfl⟩
theorem one_unpin {l : List BP} {ds : DS} {mu : Int → Option (List Nat)} {N : Nat} (h : OneI l ds mu N) (i : Int) :
    OneI (unpC l ds.secs.length i).2 ds mu N ∧ pinsOf (unpC l ds.secs.length i).2 + (if (unpC l ds.secs.length i).1 = 0 then 1 else 0) = pinsOf l := by
  by_cases hb : hasB ds.secs.length i = false
  · rw [show unpC l ds.secs.length i = (1, l) from if_pos hb]
    exact ⟨h, rfl⟩
  · rcases split_p (l := l) i.toNat with ⟨p, x, q, hl, hx, hc⟩ | ⟨hno, hc⟩
    · have e : unpC l ds.secs.length i = if x.pins = 0 then (4, l) else (0, p ++ ⟨x.k, x.D, x.cl, x.pins - 1⟩ :: q) := by
        unfold unpC
        rw [if_neg hb, hc]
      by_cases h0 : x.pins = 0
      · rw [e, if_pos h0]; exact ⟨h, rfl⟩
      · rw [e, if_neg h0]
        subst hl
        have hX := h.ok x (by simp)
        have hkd := h.kd
        rw [map_mid] at hkd
        refine ⟨⟨h.on, h.lf, h.sl, h.hurt, by rw [map_mid]; exact hkd, fun b hb => ?_, fun k hk hno => h.no k hk (fun b hb => ?_), ?_⟩, ?_⟩
        · simp at hb
          rcases hb with e | rfl | e
          · exact h.ok b (by simp [e])
          · exact ⟨hX.k, hX.l, hX.d, hX.c, by show x.pins - 1 ≤ N; have := hX.p; omega, hX.h⟩
          · exact h.ok b (by simp [e])
        · simp at hb
          rcases hb with e | rfl | e
          · exact hno b (by simp [e])
          · exact hno ⟨b.k, b.D, b.cl, b.pins - 1⟩ (by simp)
          · exact hno b (by simp [e])
        · have := h.wr
          rw [dirtyN_app, dirtyN_one] at this ⊢
          simp only [d1] at this ⊢
          omega
        · rw [pinsOf_mid, pinsOf_mid]
          simp
          omega
    · have e : unpC l ds.secs.length i = (4, l) := by
        unfold unpC
        rw [if_neg hb, hc]
      rw [e]; exact ⟨h, rfl⟩
theorem one_clean1 {l : List BP} {ds : DS} {mu : Int → Option (List Nat)} {N : Nat} (h : OneI l ds mu N) (i : Int) : OneI (clean1 l ds i).2.1 (clean1 l ds i).2.2 mu N ∧ pinsOf (clean1 l ds i).2.1 = pinsOf l := by
  unfold clean1
  split
  · exact ⟨h, rfl⟩
  · rcases split_p (l := l) i.toNat with ⟨p, x, q, hl, hx, hc⟩ | ⟨hno, hc⟩
    · rw [hc]
      dsimp only
      by_cases h0 : x.cl = 0
      · rw [if_pos h0]; exact ⟨h, rfl⟩
      · rw [if_neg h0]
        by_cases hp : 0 < x.pins
        · rw [if_pos hp]; exact ⟨h, rfl⟩
        · rw [if_neg hp]
          subst hl
          obtain ⟨e1, h1⟩ := h.home h0
          dsimp only
          rw [if_pos e1]
          exact ⟨h1, by rw [pinsOf_mid, pinsOf_mid]⟩
    · rw [hc]; exact ⟨h, rfl⟩
theorem one_cleanL {mu : Int → Option (List Nat)} {N : Nat} : ∀ (xs : List Int) {l : List BP} {ds : DS}, OneI l ds mu N → OneI (cleanL l ds xs).2.1 (cleanL l ds xs).2.2 mu N ∧ pinsOf (cleanL l ds xs).2.1 = pinsOf l
  | [], l, ds, h => ⟨h, rfl⟩
  | i :: r, l, ds, h => by
    obtain ⟨h1, h2⟩ := one_clean1 h i
    rw [cleanL]
    split
    · obtain ⟨h3, h4⟩ := one_cleanL r h1
      exact ⟨h3, h4.trans h2⟩
    · exact ⟨h1, h2⟩
theorem one_sync {l : List BP} {ds : DS} {mu : Int → Option (List Nat)} {N : Nat} (h : OneI l ds mu N) (cl : Int) : OneI (syncR l ds cl).2.1 (syncR l ds cl).2.2 mu N ∧ pinsOf (syncR l ds cl).2.1 = pinsOf l := by
  unfold syncR
  split
  · exact ⟨h, rfl⟩
  · have h1 := one_cleanL (syncKs l ds cl.toNat) h
    split
    · exact h1
    · exact h1
theorem one_write {l : List BP} {ds : DS} {mu : Int → Option (List Nat)} {N : Nat} (h : OneI l ds mu N) (r : Nat) (i : Int) (D : List Nat) (hD : D.length = 256) (cl : Int) :
    OneI (wrC r l ds i D cl).2.1 (wrC r l ds i D cl).2.2 (if (wrC r l ds i D cl).1 = 0 then (fun t => if t = i then some D else mu t) else mu) (N + 1) ∧ pinsOf (wrC r l ds i D cl).2.1 = pinsOf l := by
  unfold wrC
  split
  · exact ⟨h.mono (Nat.le_succ _), rfl⟩
  · next hb =>
    split
    · exact ⟨h.mono (Nat.le_succ _), rfl⟩
    · next hc =>
      have hb' : hasB ds.secs.length i = true := by cases hh : hasB ds.secs.length i; exact absurd hh hb; rfl
      obtain ⟨k, rfl, hk⟩ := hasB_nat hb'
      rw [h.sl] at hk
      have hcl : (cl.toNat = 1 ∨ cl.toNat = 2) := by
        by_cases e : cl = 1 ∨ cl = 2
        · rcases e with rfl | rfl
          · exact .inl rfl
          · exact .inr rfl
        · exact absurd (.inr e) hc
      rw [show ((k : Int)).toNat = k from rfl]
      generalize cl.toNat = m at *
      unfold putB
      have hmu : ∀ j : Nat, j ≠ k → (fun t : Int => if t = (k : Int) then some D else mu t) (j : Int) = mu (j : Int) := fun j hj => if_neg (by omega)
      rcases split_p (l := l) k with ⟨p, x, q, hl, hx, hcu⟩ | ⟨hno, hcu⟩
      · rw [hcu]
        dsimp only
        rw [if_pos rfl]
        subst hl
        subst hx
        have h1 := h.last
        have hX := h.ok x (by simp)
        have hkd := h1.kd
        have hmu2 : ∀ j : Nat, j ≠ x.k → (if (j : Int) = (x.k : Int) then some D else mu (j : Int)) = mu (j : Int) := fun j hj => if_neg (by omega)
        have hnx : ∀ b ∈ p ++ q, b.k ≠ x.k := fun b hb e => by
          rw [List.map_append] at hkd
          exact (List.nodup_append.1 hkd).2.2 b.k (List.mem_map.2 ⟨b, hb, rfl⟩) x.k (by simp) e
        refine ⟨⟨h.on, h.lf, h.sl, h.hurt, by simpa using hkd, fun b hb => ?_, fun j hj hno => ?_, ?_⟩, ?_⟩
        · rcases List.mem_append.1 hb with e | e
          · have hB := h1.ok b (List.mem_append_left _ e)
            exact ⟨hB.k, hB.l, by rw [hmu2 _ (hnx b e)]; exact hB.d, hB.c, by have := hB.p; omega, hB.h⟩
          · rw [List.mem_singleton.1 e]
            exact ⟨hX.k, hD, by simp, by show m ≤ 2; omega, by show x.pins ≤ N + 1; have := hX.p; omega, fun e => by dsimp only at e; omega⟩
        · have hjk : j ≠ x.k := fun e => hno ⟨x.k, D, m, x.pins⟩ (by simp) e.symm
          rw [hmu2 j hjk]
          refine h1.no j hj (fun b hb => ?_)
          rcases List.mem_append.1 hb with e | e
          · exact hno b (List.mem_append_left _ e)
          · rw [List.mem_singleton.1 e]; exact fun e => hjk e.symm
        · have := h1.wr
          rw [dirtyN_app, dirtyN_one, dirtyN_nil] at this ⊢
          have hm1 : d1 ⟨x.k, D, m, x.pins⟩ ≤ 1 := by unfold d1; split <;> omega
          omega
        · rw [pinsOf_mid, pinsOf_app, pinsOf_app]
          simp [pinsOf]
          omega
      · rw [hcu]
        dsimp only
        obtain ⟨h1, h2⟩ := one_room h r
        have hsub := roomR_sub r l ds
        generalize roomR r l ds = R at *
        obtain ⟨E, l1, ds1⟩ := R
        dsimp only at *
        by_cases hE : E = 0
        · rw [if_pos hE]
          dsimp only
          rw [if_pos rfl]
          refine ⟨h1.add (fun b hb => hno b (hsub b hb)) D m _ (N + 1) (Nat.le_succ _) ⟨hk, hD, by simp, by show m ≤ 2; omega, Nat.zero_le _, fun e => by dsimp only at e; omega⟩ hmu ?_, by rw [pinsOf_app]; simpa [pinsOf] using h2⟩
          have := h1.wr
          rw [dirtyN_app, dirtyN_one, dirtyN_nil]
          have hm1 : d1 ⟨k, D, m, 0⟩ ≤ 1 := by unfold d1; split <;> omega
          omega
        · rw [if_neg hE]
          dsimp only
          rw [if_neg hE]
          exact ⟨h1.mono (Nat.le_succ _), h2⟩
end Go.Proofs.Ytdmnddikcpfmfaa
