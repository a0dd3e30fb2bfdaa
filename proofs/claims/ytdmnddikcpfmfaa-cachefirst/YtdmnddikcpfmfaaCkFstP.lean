/-
  Which sectors a call may turn: the plain heart.
-/
import Derived.Test.YtdmnddikcpfmfaaCkMust
namespace Go.Proofs.Ytdmnddikcpfmfaa
/-- A sector that changes is that of a buffer that nobody pins; and is not of metadata, where it must not. -/
def Chg (st : Bool) (l : List BP) (ds ds' : DS) : Prop := ∀ k, secD ds' k ≠ secD ds k → ∃ b ∈ l, b.k = k ∧ b.pins = 0 ∧ (st = true → b.cl ≠ 2)
theorem Chg.refl (st : Bool) (l : List BP) (ds : DS) : Chg st l ds ds := fun _ h => absurd rfl h
/-- Buffers that were there, pinned as they were. -/
def Sub (l l' : List BP) : Prop := ∀ b ∈ l', ∃ a ∈ l, a.k = b.k ∧ a.pins = b.pins
theorem Sub.refl (l : List BP) : Sub l l := fun b hb => ⟨b, hb, rfl, rfl⟩
theorem Chg.trans {l l' : List BP} {ds ds' ds'' : DS} (h : Chg false l ds ds') (hs : Sub l l') (h2 : Chg false l' ds' ds'') : Chg false l ds ds'' := by
  intro k hk
  by_cases e : secD ds' k = secD ds k
  · obtain ⟨b, hb, e1, e2, _⟩ := h2 k (by rw [e]; exact hk)
    obtain ⟨a, ha, f1, f2⟩ := hs b hb
    exact ⟨a, ha, f1.trans e1, f2.trans e2, fun h => by cases h⟩
  · exact h k e
theorem Chg.weak {st : Bool} {l : List BP} {ds ds' : DS} (h : Chg st l ds ds') : Chg false l ds ds' := fun k hk => by
  obtain ⟨b, hb, e1, e2, _⟩ := h k hk
  exact ⟨b, hb, e1, e2, fun h => by cases h⟩
theorem chg_put {st : Bool} {l : List BP} {ds : DS} {mu : Int → Option (List Nat)} {N : Nat} (h : OneI l ds mu N) {x : BP} (hx : x ∈ l) (hp : x.pins = 0) (hc : st = true → x.cl ≠ 2) : Chg st l ds (writeS ds (x.k : Int) x.D) := by
  have hX := h.ok x hx
  obtain ⟨_, e2⟩ := one_wE h.on h.lf h.sl hX.k hX.l
  rw [e2]
  intro k hk
  rw [secD_put (by rw [h.sl]; exact hX.k)] at hk
  by_cases e : k = x.k
  · exact ⟨x, hx, e.symm, hp, hc⟩
  · rw [if_neg e] at hk; exact absurd rfl hk
theorem chg_room {l : List BP} {ds : DS} {mu : Int → Option (List Nat)} {N : Nat} (h : OneI l ds mu N) (r : Nat) : Chg true l ds (roomR r l ds).2.2 := by
  rcases roomR_cases r l ds with ⟨e, _⟩ | ⟨e, _⟩ | ⟨p, x, q, hl, _, hg, _, hor⟩
  · rw [e]; exact Chg.refl _ _ _
  · rw [e]; exact Chg.refl _ _ _
  · have hxl : x ∈ l := by rw [hl]; simp
    simp [goesB] at hg
    have hc := chg_put (st := true) h hxl hg.1 (fun _ => hg.2)
    rcases hor with ⟨_, e⟩ | ⟨_, _, e⟩ | ⟨_, _, e⟩
    · rw [e]; exact Chg.refl _ _ _
    · rw [e]; exact hc
    · rw [e]; exact hc
theorem chg_fet {l : List BP} {ds : DS} {mu : Int → Option (List Nat)} {N : Nat} (h : OneI l ds mu N) (r : Nat) (i : Int) : Chg true l ds (fetC r l ds i).2.2 := by
  have hr := chg_room h r
  unfold fetC
  split
  · exact Chg.refl _ _ _
  · unfold fetchR
    split
    · exact Chg.refl _ _ _
    · split
      · split
        · exact hr
        · exact hr
      · exact hr
theorem chg_wr {l : List BP} {ds : DS} {mu : Int → Option (List Nat)} {N : Nat} (h : OneI l ds mu N) (r : Nat) (i : Int) (D : List Nat) (cl : Int) : Chg true l ds (wrC r l ds i D cl).2.2 := by
  have hr := chg_room h r
  unfold wrC
  split
  · exact Chg.refl _ _ _
  · split
    · exact Chg.refl _ _ _
    · unfold putB
      split
      · exact Chg.refl _ _ _
      · split
        · exact hr
        · exact hr
theorem chg_clean1 {l : List BP} {ds : DS} {mu : Int → Option (List Nat)} {N : Nat} (h : OneI l ds mu N) (i : Int) : Chg false l ds (clean1 l ds i).2.2 ∧ Sub l (clean1 l ds i).2.1 := by
  unfold clean1
  split
  · exact ⟨Chg.refl _ _ _, Sub.refl _⟩
  · split
    · exact ⟨Chg.refl _ _ _, Sub.refl _⟩
    · next p x q hc =>
      obtain ⟨hl, _, _⟩ := cutAt_spec hc
      split
      · exact ⟨Chg.refl _ _ _, Sub.refl _⟩
      · split
        · exact ⟨Chg.refl _ _ _, Sub.refl _⟩
        · next hp =>
          refine ⟨chg_put h (by rw [hl]; simp) (by omega) (fun h => by cases h), ?_⟩
          dsimp only
          split
          · intro b hb
            simp at hb
            rcases hb with e | rfl | e
            · exact ⟨b, by rw [hl]; simp [e], rfl, rfl⟩
            · exact ⟨x, by rw [hl]; simp, rfl, rfl⟩
            · exact ⟨b, by rw [hl]; simp [e], rfl, rfl⟩
          · exact Sub.refl _
theorem chg_cleanL {mu : Int → Option (List Nat)} {N : Nat} : ∀ (xs : List Int) {l : List BP} {ds : DS}, OneI l ds mu N → Chg false l ds (cleanL l ds xs).2.2
  | [], l, ds, h => Chg.refl _ _ _
  | i :: r, l, ds, h => by
    obtain ⟨h1, h2⟩ := chg_clean1 h i
    rw [cleanL]
    split
    · exact h1.trans h2 (chg_cleanL r (one_clean1 h i).1)
    · exact h1
theorem chg_sync {l : List BP} {ds : DS} {mu : Int → Option (List Nat)} {N : Nat} (h : OneI l ds mu N) (cl : Int) : Chg false l ds (syncR l ds cl).2.2 := by
  unfold syncR
  split
  · exact Chg.refl _ _ _
  · have h1 := chg_cleanL (syncKs l ds cl.toNat) h
    split
    · exact h1
    · exact h1
/-- The blocks that are pinned, of the first m. -/
def pinKs (l : List BP) (m : Nat) : List Int := ((List.range m).filter (fun k : Nat => pinnedB l (k : Int))).map (fun k : Nat => (k : Int))
theorem pinKs_zero (l : List BP) : pinKs l 0 = [] := rfl
theorem pinKs_succ (l : List BP) (m : Nat) : pinKs l (m + 1) = if pinnedB l (m : Int) = true then pinKs l m ++ [(m : Int)] else pinKs l m := by
  unfold pinKs
  rw [List.range_succ, List.filter_append, List.map_append]
  by_cases h : pinnedB l (m : Int) = true
  · simp [h]
  · simp [h]
theorem pinKs_len (l : List BP) (m : Nat) : (pinKs l m).length ≤ m := by
  unfold pinKs
  rw [List.length_map]
  have := List.length_filter_le (fun k : Nat => pinnedB l (k : Int)) (List.range m)
  simpa using this
theorem pinKs_mem {l : List BP} {m k : Nat} : (k : Int) ∈ pinKs l m ↔ k < m ∧ pinnedB l (k : Int) = true := by
  simp only [pinKs, List.mem_map, List.mem_filter, List.mem_range]
  constructor
  · rintro ⟨j, ⟨h1, h2⟩, e⟩
    rw [← Int.ofNat.inj e]
    exact ⟨h1, h2⟩
  · rintro ⟨h1, h2⟩
    exact ⟨k, ⟨h1, h2⟩, rfl⟩
/-- What the law asks of a sector that changed. -/
theorem chg_says {st : Bool} {l : List BP} {ds ds' : DS} (hkd : (l.map (·.k)).Nodup) (h : Chg st l ds ds') {k : Nat} (hk : secD ds' k ≠ secD ds k) : decide ((k : Int) ∈ pinKs l 60) = false ∧ (st = true → decide ((k : Int) ∈ dirtyKs 60 l 2) = false) := by
  obtain ⟨b, hb, e1, e2, e3⟩ := h k hk
  subst e1
  constructor
  · refine decide_eq_false (fun hm => ?_)
    have := (pinKs_mem.1 hm).2
    simp only [pinnedB, List.any_eq_true, Bool.and_eq_true, decide_eq_true_eq] at this
    obtain ⟨a, ha, f1, f2⟩ := this
    rw [nodup_map_inj hkd ha hb (Int.ofNat.inj f1)] at f2
    omega
  · intro hs
    refine decide_eq_false (fun hm => ?_)
    obtain ⟨a, ha, _, f1, f2⟩ := dirtyKs_mem.1 hm
    rw [nodup_map_inj hkd ha hb (Int.ofNat.inj f2)] at f1
    exact e3 hs f1
end Go.Proofs.Ytdmnddikcpfmfaa
