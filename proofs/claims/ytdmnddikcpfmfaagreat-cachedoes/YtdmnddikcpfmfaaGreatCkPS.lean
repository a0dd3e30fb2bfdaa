/-
  What both caches sync, and the bounds that hold behind any calls.
-/
import Derived.Test.YtdmnddikcpfmfaaGreatCkPR
import Derived.Test.YtdmnddikcpfmfaaGreatCkDel
namespace Go.Proofs.YtdmnddikcpfmfaaGreat
open Go.RowKit
theorem key_one {l p q : List BP} {x : BP} {k : Nat} (hn : (l.map (·.k)).Nodup) (h : cutAt (isK k) l = some (p, x, q)) {b : BP} (hb : b ∈ l) (hk : b.k = k) : b = x := by
  obtain ⟨e, hx, -⟩ := cutAt_spec h
  have hxk := isK_iff.1 hx
  subst e
  have hm : x.k ∉ p.map (·.k) ++ q.map (·.k) := by
    rw [map_mid] at hn
    exact not_mem_mid hn
  rcases List.mem_append.1 hb with h1 | h1
  · exact absurd (List.mem_append_left _ (List.mem_map.2 ⟨b, h1, by rw [hk, hxk]⟩)) hm
  · rcases List.mem_cons.1 h1 with rfl | h1
    · rfl
    · exact absurd (List.mem_append_right _ (List.mem_map.2 ⟨b, h1, by rw [hk, hxk]⟩)) hm
theorem dirt_rel {l : List BP} (hn : (l.map (·.k)).Nodup) (n cl : Nat) : dirtQ n l cl = dirtyKs n l cl := by
  unfold dirtQ dirtyKs
  congr 1
  apply List.filter_congr
  intro k _
  unfold isDirt
  cases hc : cutAt (isK k) l with
  | none =>
    symm
    rw [List.any_eq_false]
    intro b hb h
    simp at h
    exact cut_none_iff hc b hb h.1
  | some y =>
    obtain ⟨p, x, q⟩ := y
    obtain ⟨e, hx, -⟩ := cutAt_spec hc
    have hxk := isK_iff.1 hx
    dsimp only
    by_cases h : x.cl = cl
    · rw [decide_eq_true h]
      symm
      rw [List.any_eq_true]
      exact ⟨x, by rw [e]; simp, by simp [hxk, h]⟩
    · rw [decide_eq_false h]
      symm
      rw [List.any_eq_false]
      intro b hb hh
      simp at hh
      rw [key_one hn hc hb hh.1] at hh
      exact h hh.2
theorem pin_rel {l : List BP} (hn : (l.map (·.k)).Nodup) {k : Nat} : decide (pinI l (k : Int) = 0) = !pinnedB l (k : Int) := by
  unfold pinI pinnedB
  rw [isI_isK]
  cases hc : cutAt (isK k) l with
  | none =>
    have : l.any (fun b => decide ((b.k : Int) = (k : Int)) && decide (0 < b.pins)) = false := by
      rw [List.any_eq_false]
      intro b hb h
      simp at h
      exact cut_none_iff hc b hb (by omega)
    rw [this]
    rfl
  | some y =>
    obtain ⟨p, x, q⟩ := y
    obtain ⟨e, hx, -⟩ := cutAt_spec hc
    have hxk := isK_iff.1 hx
    dsimp only
    by_cases h : x.pins = 0
    · have : l.any (fun b => decide ((b.k : Int) = (k : Int)) && decide (0 < b.pins)) = false := by
        rw [List.any_eq_false]
        intro b hb hh
        simp at hh
        rw [key_one hn hc hb (by omega)] at hh
        omega
      rw [this]
      simp [h]
    · have : l.any (fun b => decide ((b.k : Int) = (k : Int)) && decide (0 < b.pins)) = true := by
        rw [List.any_eq_true]
        exact ⟨x, by rw [e]; simp, by simp [hxk]; omega⟩
      rw [this]
      simp
      omega
theorem syL_rel {l : List BP} (hn : (l.map (·.k)).Nodup) (ds : DS) (cl : Nat) : syL ds.secs.length l cl = syncKs l ds cl := by
  unfold syL syncKs
  rw [dirt_rel hn]
  apply List.filter_congr
  intro z hz
  obtain ⟨k, _, rfl⟩ : ∃ k, k < ds.secs.length ∧ z = (k : Int) := by
    simp only [dirtyKs, List.mem_map, List.mem_filter, List.mem_range] at hz
    obtain ⟨k, ⟨h1, _⟩, rfl⟩ := hz
    exact ⟨k, h1, rfl⟩
  exact pin_rel hn
theorem sy_rel {ds : DS} {t : RS} (h : DRel ds t) (hlc : t.cut = true → 0 ≤ t.left) {l : List BP} (hn : (l.map (·.k)).Nodup) (CL : Nat) (hC : CL = 1 ∨ CL = 2) :
    (syQ l t CL).1 = (syncR l ds (CL : Int)).1 ∧ (syQ l t CL).2.1 = (syncR l ds (CL : Int)).2.1 ∧ DRel (syncR l ds (CL : Int)).2.2 (syQ l t CL).2.2 := by
  have hl := syL_rel hn ds CL
  have hc2 : ¬ ¬ ((CL : Int) = 1 ∨ (CL : Int) = 2) := fun h => h (by omega)
  unfold syQ syncR
  rw [if_neg hc2, Int.toNat_natCast, h.len, hl]
  obtain ⟨e1, e2, hd⟩ := clL_rel (syncKs l ds CL) h hlc l
  rw [e1]
  by_cases h0 : (cleanL l ds (syncKs l ds CL)).1 = 0
  · rw [if_pos h0, if_pos h0]
    exact ⟨by rw [hd.power], e2, hd⟩
  · rw [if_neg h0, if_neg h0]
    exact ⟨e1, e2, hd⟩
/-- What is bounded behind N calls. -/
structure PI (l : List BP) (ds : DS) (N : Nat) : Prop where
  d : ∀ b ∈ l, b.D.length = 256
  c : ∀ b ∈ l, b.cl ≤ 2
  p : ∀ b ∈ l, b.pins ≤ N
  wr : ds.writes + dirtyN l ≤ N
theorem PI.mono {l : List BP} {ds : DS} {N M : Nat} (h : PI l ds N) (hm : N ≤ M) : PI l ds M := ⟨h.d, h.c, fun b hb => Nat.le_trans (h.p b hb) hm, Nat.le_trans h.wr hm⟩
theorem dirtyN_app (p q : List BP) : dirtyN (p ++ q) = dirtyN p + dirtyN q := by simp [dirtyN]
def d1 (x : BP) : Nat := if x.cl = 0 then 0 else 1
theorem dirtyN_one (x : BP) (q : List BP) : dirtyN (x :: q) = d1 x + dirtyN q := by
  unfold dirtyN d1
  rw [List.countP_cons]
  by_cases h : x.cl = 0 <;> simp [h]
  omega
theorem PI.sub {p q : List BP} {x : BP} {ds : DS} {N : Nat} (h : PI (p ++ x :: q) ds N) : PI (p ++ q) ds N := by
  have hm : ∀ b ∈ p ++ q, b ∈ p ++ x :: q := fun b hb => by
    rcases List.mem_append.1 hb with e | e
    · exact List.mem_append_left _ e
    · exact List.mem_append_right _ (List.mem_cons_of_mem _ e)
  refine ⟨fun b hb => h.d b (hm b hb), fun b hb => h.c b (hm b hb), fun b hb => h.p b (hm b hb), ?_⟩
  have := h.wr
  rw [dirtyN_app, dirtyN_one] at this
  rw [dirtyN_app]
  omega
theorem PI.disk {l : List BP} {ds ds' : DS} {N : Nat} (h : PI l ds N) (hw : ds'.writes = ds.writes) : PI l ds' N := ⟨h.d, h.c, h.p, by rw [hw]; exact h.wr⟩
theorem PI.add {l : List BP} {x : BP} {ds : DS} {N : Nat} (h : PI l ds N) (h1 : x.D.length = 256) (h2 : x.cl ≤ 2) (h3 : x.pins ≤ N + 1) : PI (l ++ [x]) ds (N + 1) := by
  refine ⟨fun b hb => ?_, fun b hb => ?_, fun b hb => ?_, ?_⟩
  · rcases List.mem_append.1 hb with e | e
    · exact h.d b e
    · rw [List.mem_singleton.1 e]; exact h1
  · rcases List.mem_append.1 hb with e | e
    · exact h.c b e
    · rw [List.mem_singleton.1 e]; exact h2
  · rcases List.mem_append.1 hb with e | e
    · exact Nat.le_succ_of_le (h.p b e)
    · rw [List.mem_singleton.1 e]; exact h3
  · have := h.wr
    rw [dirtyN_app, dirtyN_one]
    have : d1 x ≤ 1 := by unfold d1; split <;> omega
    have : dirtyN [] = 0 := rfl
    omega
theorem PI.room {l : List BP} {ds : DS} {N : Nat} (h : PI l ds N) (r : Nat) : PI (roomR r l ds).2.1 (roomR r l ds).2.2 N := by
  rcases roomR_cases r l ds with ⟨e, _⟩ | ⟨e, _⟩ | ⟨p, x, q, hl, _, hg, _, ⟨hc, e⟩ | ⟨hc, hE, e⟩ | ⟨hc, hE, e⟩⟩
  · rw [e]; exact h
  · rw [e]; exact h
  · rw [e]; subst hl; exact h.sub
  · rw [e]
    subst hl
    have h2 := h.sub
    refine ⟨h2.d, h2.c, h2.p, ?_⟩
    have := h.wr
    rw [dirtyN_app, dirtyN_one, d1, if_neg hc] at this
    show (writeS ds _ _).writes + dirtyN (p ++ q) ≤ N
    rw [writeS_writes, if_pos hE, dirtyN_app]
    omega
  · rw [e]
    exact h.disk (by rw [writeS_writes, if_neg hE])
theorem PI.move {p q : List BP} {x y : BP} {ds : DS} {N : Nat} (h : PI (p ++ x :: q) ds N) (h1 : y.D.length = 256) (h2 : y.cl ≤ 2) (h3 : y.pins ≤ N + 1) : PI (p ++ q ++ [y]) ds (N + 1) := h.sub.add h1 h2 h3
theorem readD_len {ds : DS} (hok : ∀ x ∈ ds.secs, x.1.length = 256) {k : Nat} (h : readE ds (k : Int) = 0) (hk : hasB ds.secs.length (k : Int) = true) : (readD ds (k : Int)).length = 256 := by
  rw [readD, if_pos h, Int.toNat_natCast]
  obtain ⟨j, hj, hjl⟩ := hasB_nat hk
  have : j = k := by omega
  subst this
  rw [List.getD_eq_getElem?_getD, List.getElem?_eq_getElem hjl, Option.getD_some]
  exact hok _ (List.getElem_mem hjl)
theorem room_okS {ds : DS} (hok : ∀ x ∈ ds.secs, x.1.length = 256) (r : Nat) (l : List BP) (hd : ∀ b ∈ l, b.D.length = 256) : ∀ x ∈ (roomR r l ds).2.2.secs, x.1.length = 256 := by
  have hw : ∀ (i : Int) (D : List Nat), D.length = 256 → ∀ x ∈ (writeS ds i D).secs, x.1.length = 256 := fun i D hD => by
    unfold writeS
    split
    · exact hok
    · split
      · exact hok
      · split
        · exact hok
        · intro x hx
          rcases List.mem_or_eq_of_mem_set hx with e | e
          · exact hok x e
          · rw [e]; exact hD
  rcases roomR_cases r l ds with ⟨e, _⟩ | ⟨e, _⟩ | ⟨p, x, q, hl, _, hg, _, ⟨hc, e⟩ | ⟨hc, hE, e⟩ | ⟨hc, hE, e⟩⟩
  · rw [e]; exact hok
  · rw [e]; exact hok
  · rw [e]; exact hok
  · rw [e]; exact hw _ _ (hd x (by rw [hl]; simp))
  · rw [e]; exact hw _ _ (hd x (by rw [hl]; simp))
/-- Behind fetch; the buffer that is there is the last one. -/
theorem PI.fet {l : List BP} {ds : DS} {N : Nat} (h : PI l ds N) (hok : ∀ x ∈ ds.secs, x.1.length = 256) (r : Nat) (i : Int) : PI (fetC r l ds i).2.1 (fetC r l ds i).2.2 N := by
  unfold fetC
  by_cases hb : hasB ds.secs.length i = false
  · rw [if_pos hb]; exact h
  · rw [if_neg hb]
    have hb' : hasB ds.secs.length i = true := by cases hh : hasB ds.secs.length i <;> simp_all
    obtain ⟨k, rfl, hk⟩ := hasB_nat hb'
    rw [Int.toNat_natCast]
    unfold fetchR
    cases hc : cutAt (isK k) l with
    | some y =>
      obtain ⟨p, x, q⟩ := y
      obtain ⟨e, -, -⟩ := cutAt_spec hc
      subst e
      dsimp only
      have hm : ∀ b ∈ p ++ q ++ [x], b ∈ p ++ x :: q := fun b hb => by
        simp only [List.mem_append, List.mem_cons, List.not_mem_nil, or_false] at hb ⊢
        rcases hb with (e | e) | e
        · exact .inl e
        · exact .inr (.inr e)
        · exact .inr (.inl e)
      refine ⟨fun b hb => h.d b (hm b hb), fun b hb => h.c b (hm b hb), fun b hb => h.p b (hm b hb), ?_⟩
      have := h.wr
      rw [dirtyN_app, dirtyN_one] at this
      rw [dirtyN_app, dirtyN_app, dirtyN_one]
      have : dirtyN [] = 0 := rfl
      omega
    | none =>
      have h2 := h.room r
      dsimp only
      split
      · split
        · rename_i h3 h4
          refine ⟨fun b hb => ?_, fun b hb => ?_, fun b hb => ?_, ?_⟩
          · rcases List.mem_append.1 hb with e | e
            · exact h2.d b e
            · rw [List.mem_singleton.1 e]
              exact readD_len (room_okS hok r l h.d) h4 (by rw [roomR_secs]; exact hb')
          · rcases List.mem_append.1 hb with e | e
            · exact h2.c b e
            · rw [List.mem_singleton.1 e]; exact Nat.zero_le _
          · rcases List.mem_append.1 hb with e | e
            · exact h2.p b e
            · rw [List.mem_singleton.1 e]; exact Nat.zero_le _
          · have := h2.wr
            show (roomR r l ds).2.2.writes + dirtyN ((roomR r l ds).2.1 ++ [⟨k, readD (roomR r l ds).2.2 (k : Int), 0, 0⟩]) ≤ N
            rw [dirtyN_app, dirtyN_one, show d1 ⟨k, readD (roomR r l ds).2.2 (k : Int), 0, 0⟩ = 0 from rfl, show dirtyN [] = 0 from rfl]
            omega
        · exact h2
      · exact h2
theorem PI.pin {l : List BP} {ds : DS} {N : Nat} (h : PI l ds N) : PI (pinLast l) ds (N + 1) := by
  unfold pinLast
  cases hl : l.getLast? with
  | none => exact h.mono (Nat.le_succ _)
  | some x =>
    obtain ⟨p, hp⟩ := List.getLast?_eq_some_iff.1 hl
    subst hp
    dsimp only
    rw [List.dropLast_concat]
    have hx := h.p x (by simp)
    have := (PI.move (q := []) (y := ⟨x.k, x.D, x.cl, x.pins + 1⟩) h (h.d x (by simp)) (h.c x (by simp)) (by show x.pins + 1 ≤ N + 1; omega))
    rwa [List.append_nil] at this
theorem PI.pinC {l : List BP} {ds : DS} {N : Nat} (h : PI l ds N) (hok : ∀ x ∈ ds.secs, x.1.length = 256) (r : Nat) (i : Int) : PI (pinC r l ds i).2.1 (pinC r l ds i).2.2 (N + 1) := by
  have h2 := h.fet hok r i
  show PI (if (fetC r l ds i).1 = 0 then pinLast (fetC r l ds i).2.1 else (fetC r l ds i).2.1) (fetC r l ds i).2.2 (N + 1)
  split
  · exact h2.pin
  · exact h2.mono (Nat.le_succ _)
theorem PI.wrC {l : List BP} {ds : DS} {N : Nat} (h : PI l ds N) (r : Nat) (i : Int) (D : List Nat) (cl : Int) : PI (wrC r l ds i D cl).2.1 (wrC r l ds i D cl).2.2 (N + 1) := by
  unfold Proofs.YtdmnddikcpfmfaaGreat.wrC
  split
  · exact h.mono (Nat.le_succ _)
  · split
    · exact h.mono (Nat.le_succ _)
    · rename_i hd
      have hd2 : D.length = 256 := by
        rcases Nat.decEq D.length 256 with e | e
        · exact absurd (.inl e) hd
        · exact e
      have hcl : cl = 1 ∨ cl = 2 := by
        rcases Classical.em (cl = 1 ∨ cl = 2) with e | e
        · exact e
        · exact absurd (.inr e) hd
      have hc2 : cl.toNat ≤ 2 := by omega
      unfold putB
      split
      · rename_i p x q hc
        obtain ⟨e, -, -⟩ := cutAt_spec hc
        subst e
        have := h.p x (by simp)
        exact h.move hd2 hc2 (by show x.pins ≤ N + 1; omega)
      · have h2 := h.room r
        split
        · exact h2.add hd2 hc2 (Nat.zero_le _)
        · exact h2.mono (Nat.le_succ _)
theorem PI.unp {l : List BP} {ds : DS} {N : Nat} (h : PI l ds N) (n : Nat) (i : Int) : PI (unpC l n i).2 ds N := by
  unfold unpC
  split
  · exact h
  · split
    · exact h
    · rename_i p x q hc
      split
      · exact h
      · obtain ⟨e, -, -⟩ := cutAt_spec hc
        subst e
        have hm : ∀ b ∈ p ++ (⟨x.k, x.D, x.cl, x.pins - 1⟩ : BP) :: q, b = ⟨x.k, x.D, x.cl, x.pins - 1⟩ ∨ b ∈ p ++ x :: q := fun b hb => by
          simp only [List.mem_append, List.mem_cons] at hb ⊢
          rcases hb with e | e | e
          · exact .inr (.inl e)
          · exact .inl e
          · exact .inr (.inr (.inr e))
        have hx : x ∈ p ++ x :: q := by simp
        refine ⟨fun b hb => ?_, fun b hb => ?_, fun b hb => ?_, ?_⟩
        · rcases hm b hb with rfl | e
          · exact h.d x hx
          · exact h.d b e
        · rcases hm b hb with rfl | e
          · exact h.c x hx
          · exact h.c b e
        · rcases hm b hb with rfl | e
          · have := h.p x hx; show x.pins - 1 ≤ N; omega
          · exact h.p b e
        · have := h.wr
          rw [dirtyN_app, dirtyN_one] at this ⊢
          exact this
theorem PI.dropK {l : List BP} {ds : DS} {N : Nat} (h : PI l ds N) (k : Nat) : PI (dropK l k) ds N := by
  unfold Proofs.YtdmnddikcpfmfaaGreat.dropK
  split
  · rename_i p x q hc
    obtain ⟨e, -, -⟩ := cutAt_spec hc
    subst e
    exact h.sub
  · exact h
theorem PI.dropL {ds : DS} {N : Nat} : ∀ (xs : List Int) {l : List BP}, PI l ds N → PI (dropL l xs) ds N
  | [], _, h => h
  | i :: r, _, h => PI.dropL r (h.dropK i.toNat)
theorem PI.forR {l : List BP} {ds : DS} {N : Nat} (h : PI l ds N) (n : Nat) (xs : List Int) : PI (forR l n xs).2 ds N := by
  unfold Proofs.YtdmnddikcpfmfaaGreat.forR
  split
  · exact PI.dropL xs h
  · exact h
theorem PI.cl1 {l : List BP} {ds : DS} {N : Nat} (h : PI l ds N) (i : Int) : PI (clean1 l ds i).2.1 (clean1 l ds i).2.2 N := by
  have hs := clean1_sum l ds i
  have hw := h.wr
  have hm : ∀ b ∈ (clean1 l ds i).2.1, ∃ y ∈ l, b.D = y.D ∧ (b.cl = y.cl ∨ b.cl = 0) ∧ b.pins = y.pins := by
    unfold clean1
    split
    · exact fun b hb => ⟨b, hb, rfl, .inl rfl, rfl⟩
    · split
      · exact fun b hb => ⟨b, hb, rfl, .inl rfl, rfl⟩
      · rename_i p x q hc
        obtain ⟨e, -, -⟩ := cutAt_spec hc
        split
        · exact fun b hb => ⟨b, hb, rfl, .inl rfl, rfl⟩
        · split
          · exact fun b hb => ⟨b, hb, rfl, .inl rfl, rfl⟩
          · dsimp only
            split
            · intro b hb
              simp only [List.mem_append, List.mem_cons] at hb
              rcases hb with e' | rfl | e'
              · exact ⟨b, by rw [e]; simp [e'], rfl, .inl rfl, rfl⟩
              · exact ⟨x, by rw [e]; simp, rfl, .inr rfl, rfl⟩
              · exact ⟨b, by rw [e]; simp [e'], rfl, .inl rfl, rfl⟩
            · exact fun b hb => ⟨b, hb, rfl, .inl rfl, rfl⟩
  refine ⟨fun b hb => ?_, fun b hb => ?_, fun b hb => ?_, by omega⟩
  · obtain ⟨y, hy, e, -, -⟩ := hm b hb; rw [e]; exact h.d y hy
  · obtain ⟨y, hy, -, e, -⟩ := hm b hb
    have := h.c y hy
    rcases e with e | e <;> omega
  · obtain ⟨y, hy, -, -, e⟩ := hm b hb; rw [e]; exact h.p y hy
theorem PI.clL {N : Nat} : ∀ (xs : List Int) {l : List BP} {ds : DS}, PI l ds N → PI (cleanL l ds xs).2.1 (cleanL l ds xs).2.2 N
  | [], _, _, h => h
  | i :: r, l, ds, h => by
    unfold cleanL
    split
    · exact PI.clL r (h.cl1 i)
    · exact h.cl1 i
theorem PI.sync {l : List BP} {ds : DS} {N : Nat} (h : PI l ds N) (cl : Int) : PI (syncR l ds cl).2.1 (syncR l ds cl).2.2 N := by
  unfold syncR
  split
  · exact h
  · split
    · exact PI.clL _ h
    · exact PI.clL _ h
end Go.Proofs.YtdmnddikcpfmfaaGreat

namespace Go.Proofs.YtdmnddikcpfmfaaGreat
open Go.RowKit Go.Shelf
theorem blk_of_row {w : World} {k : Nat} {cs : Array Value} {e : TypeId} (h : w.heap[k]? = some (.cells cs e (0, 0))) : Blk w k e cs.toList := h
theorem blk_fpR {w : World} {r : Nat} {V : RV} {t : RS} (h : RefIn w r V t) {g : Nat} {ty : TypeId} {cs : List Value} (hg : Blk w g ty cs) (h1 : 66 ≠ ty) (h2 : ty ≠ 52) (h3 : ty ≠ 4) (h4 : ty ≠ 124) (hf : fpR r V g) : False := by
  rcases hf with e | e | e | e
  · exact blk_ne h.blk hg h1 e.symm
  · exact owns_ne h.srow e hg h2 rfl
  · exact owns_ne h.brow e hg h3 rfl
  · exact owns_ne h.wrow e hg h4 rfl
/-- A block that the document's cache does not stand in. -/
theorem QIn.apart {w : World} {q : QS} (h : QIn w q) {g : Nat} {ty : TypeId} {cs : List Value} (hg : Blk w g ty cs) (h1 : 77 ≠ ty) (h2 : ty ≠ 86) (h3 : 66 ≠ ty) (h4 : ty ≠ 52) (h5 : ty ≠ 4) (h6 : ty ≠ 124) : ¬ fpQ q g := by
  rintro (e | e | e)
  · exact blk_ne h.blk hg h1 e.symm
  · exact owns_ne h.row e hg h2 rfl
  · exact blk_fpR h.ref hg h3 h4 h5 h6 e
/-- What a block of the document's cache holds. -/
theorem QIn.cellsOf {w : World} {q : QS} (h : QIn w q) {k : Nat} (hk : fpQ q k) : ∃ ty cs, Blk w k ty cs ∧ ty ≠ 97 ∧ ty ≠ 62 ∧ ty ≠ 102 ∧ ty ≠ 173 := by
  rcases hk with rfl | e | rfl | e | e | e
  · exact ⟨_, _, h.blk, by decide, by decide, by decide, by decide⟩
  · obtain ⟨cs, hc, -⟩ := owns_row h.row e
    exact ⟨_, _, blk_of_row hc, by decide, by decide, by decide, by decide⟩
  · exact ⟨_, _, h.ref.blk, by decide, by decide, by decide, by decide⟩
  · obtain ⟨cs, hc, -⟩ := owns_row h.ref.srow e
    exact ⟨_, _, blk_of_row hc, by decide, by decide, by decide, by decide⟩
  · obtain ⟨cs, hc, -⟩ := owns_row h.ref.brow e
    exact ⟨_, _, blk_of_row hc, by decide, by decide, by decide, by decide⟩
  · obtain ⟨cs, hc, -⟩ := owns_row h.ref.wrow e
    exact ⟨_, _, blk_of_row hc, by decide, by decide, by decide, by decide⟩
theorem QIn.keepC {w w' : World} {c : CS} {q : QS} (h : QIn w q) (hc : CIn w c) (hk : Keep (fpC c) w w') : QIn w' q :=
  h.same (fun k hf => by
    obtain ⟨ty, cs, hb, h1, h2, h3, h4⟩ := h.cellsOf hf
    exact hk.block k (h.lt hf) (hc.apart hb h1 h2 h3 h4))
   (fun k cs hb => hk.block k (Array.getElem?_eq_some_iff.1 hb).1 (hc.apart (blk_of_row hb) (by decide) (by decide) (by decide) (by decide)))
theorem CIn.keepQ {w w' : World} {c : CS} {q : QS} (h : CIn w c) (hq : QIn w q) (hk : Keep (fpQ q) w w') : CIn w' c := by
  refine h.same fun k hkk => hk.block k (h.ltAll hkk) ?_
  rcases hkk with rfl | (rfl | rfl | e | e | e | e) | ⟨x, hx, a, ha, rfl⟩
  · exact hq.apart h.base.cc (by decide) (by decide) (by decide) (by decide) (by decide) (by decide)
  · intro hf
    obtain ⟨es, cl, hm⟩ := h.map.obj
    obtain ⟨ty, cs, hb, -⟩ := hq.cellsOf hf
    rw [Blk, hm] at hb
    cases hb
  · exact hq.apart (h.mem (ebuf c.e) (List.mem_cons_self ..)) (by decide) (by decide) (by decide) (by decide) (by decide) (by decide)
  · obtain ⟨x, hx, rfl⟩ := List.mem_map.1 e
    exact hq.apart (h.mem x (List.mem_cons_of_mem _ hx)) (by decide) (by decide) (by decide) (by decide) (by decide) (by decide)
  · rw [e]; exact hq.apart h.base.disk.ram (by decide) (by decide) (by decide) (by decide) (by decide) (by decide)
  · rw [e]; exact hq.apart h.base.disk.row (by decide) (by decide) (by decide) (by decide) (by decide) (by decide)
  · obtain ⟨cs, hc, -⟩ := owns_row h.base.disk.log e
    exact hq.apart (blk_of_row hc) (by decide) (by decide) (by decide) (by decide) (by decide) (by decide)
  · intro hf
    obtain ⟨cs, hc⟩ := (h.base.dat x hx).2 a ha
    exact hq.u8_ne hc hf
/-- Both caches, and the law's box of them. -/
structure Twin (B0 : Nat) (w : World) (tw : Nat) (c : CS) (q : QS) (N : Nat) : Prop where
  C : CIn w c
  Q : QIn w q
  tb : Blk w tw 39 [.pointer (some ⟨c.d, 0, none⟩), .pointer (some ⟨c.c, 0, none⟩), .pointer (some ⟨q.g, 0, none⟩), .pointer (some ⟨q.q, 0, none⟩)]
  P : q.P = c.P
  rel : DRel c.ds q.t
  room : q.room = c.room
  pi : PI c.P c.ds N
  fc : ∀ k, fpC c k → B0 ≤ k
  fq : ∀ k, fpQ q k → B0 ≤ k
  le : B0 ≤ w.heap.size
theorem Twin.below {B0 : Nat} {w w' : World} {tw : Nat} {c : CS} {q : QS} {N : Nat} (h : Twin B0 w tw c q N) (hb : Below w.heap.size w w') : Twin B0 w' tw c q N :=
  ⟨h.C.kept hb, h.Q.below hb, h.tb.kept hb, h.P, h.rel, h.room, h.pi, h.fc, h.fq, Nat.le_trans h.le hb.size⟩
theorem Twin.kd {B0 : Nat} {w : World} {tw : Nat} {c : CS} {q : QS} {N : Nat} (h : Twin B0 w tw c q N) : (c.P.map (·.k)).Nodup := by
  have := h.C.fit.kd
  rw [CS.P, List.map_map]
  exact this
theorem Twin.ok {B0 : Nat} {w : World} {tw : Nat} {c : CS} {q : QS} {N : Nat} (h : Twin B0 w tw c q N) : ∀ x ∈ c.ds.secs, x.1.length = 256 := fun x hx => (h.C.base.disk.okS x hx).1
theorem Twin.wrB {B0 : Nat} {w : World} {tw : Nat} {c : CS} {q : QS} {N : Nat} (h : Twin B0 w tw c q N) (hN : N ≤ 1000) : c.ds.writes < 1024 ∧ c.ds.writes + dirtyN c.P ≤ 1024 ∧ q.t.many < 2000 ∧ q.t.wrote.length < 2000 ∧ q.t.many + dirtyN c.P < 2000 ∧ q.t.wrote.length + dirtyN c.P < 2000 := by
  have h1 := h.pi.wr
  have h2 := h.rel.w
  have h3 : q.t.wrote.length = c.ds.writes := by rw [h.rel.log, wroteOf, List.length_map]; exact h.C.base.disk.ll
  refine ⟨by omega, by omega, by omega, by omega, by omega, by omega⟩
/-- Both did something. -/
theorem Twin.both {B0 : Nat} {w w1 w2 : World} {tw : Nat} {c c1 : CS} {q q1 : QS} {N M : Nat} (h : Twin B0 w tw c q N) (A : CAfter w w1 c c1) (E : QAfter w1 w2 q q1) (hP : q1.P = c1.P) (hr : DRel c1.ds q1.t) (hp : PI c1.P c1.ds M) : Twin B0 w2 tw c1 q1 M ∧ Below B0 w w2 := by
  have hq1 := h.Q.keepC h.C A.keep
  have hb1 : Below B0 w w1 := A.belowB h.le h.fc
  have hB1 : B0 ≤ w1.heap.size := Nat.le_trans h.le hb1.size
  have hb2 : Below B0 w1 w2 := E.belowB hB1 h.fq
  have tb1 := A.blk h.C h.tb (by decide) (by decide) (by decide) (by decide)
  have tb2 := tb1.keep E.keep (hq1.apart tb1 (by decide) (by decide) (by decide) (by decide) (by decide) (by decide))
  refine ⟨⟨A.cin.keepQ hq1 E.keep, E.qin, ?_, hP, hr, by rw [E.room, A.room]; exact h.room, hp, A.fp h.le h.fc, E.fp hB1 h.fq, Nat.le_trans hB1 hb2.size⟩, hb1.trans hb2⟩
  rw [A.d, A.c, E.g, E.q]
  exact tb2
end Go.Proofs.YtdmnddikcpfmfaaGreat
