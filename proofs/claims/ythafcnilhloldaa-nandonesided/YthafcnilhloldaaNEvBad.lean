/-
  New refuses events that may not be; how pages stay where no call is on them (the plain heart of P2.6).
-/
import Derived.Test.YthafcnilhloldaaNPowP
namespace Go.Proofs.Ythafcnilhloldaa
open Go.RowKit Go.Shelf
theorem keep_no {B : Prop} {e r : Ending} {b : Bool} (h : (b = false ∧ e = r) ∨ (b = true ∧ B)) (hb : b = false) : e = r := by
  rcases h with ⟨_, h⟩ | ⟨h, _⟩
  · exact h
  · rw [hb] at h; cases h
/-- The events of a chip are cuts and failures. -/
def Kinds (s : St) : Prop := ∀ e ∈ s.ev, e.kind = 1 ∨ e.kind = 2
theorem Kinds.next {s : St} (h : Kinds s) (n : Nat) (h0 : outE (nextEv s.ev n).kind = 0) : (nextEv s.ev n).kind = 0 := by
  unfold nextEv at h0 ⊢
  split
  · rename_i e r he
    rw [he] at h0
    dsimp only at h0
    split
    · rename_i ha
      rw [if_pos ha] at h0
      rcases h e (by rw [he]; simp) with h1 | h1 <;> rw [h1] at h0 <;> simp [outE] at h0
    · rfl
  · rfl
theorem okEvs_kinds : ∀ (es : List Ev) (n : Int), okEvs n es = true → ∀ e ∈ es, e.kind = 1 ∨ e.kind = 2
  | [], _, _ => fun e he => by simp at he
  | e :: r, n, h => by
    simp only [okEvs, Bool.and_eq_true, Bool.or_eq_true, beq_iff_eq] at h
    intro x hx
    rcases List.mem_cons.1 hx with rfl | hx
    · exact h.1.1.2
    · exact okEvs_kinds r _ h.2 x hx
set_option maxRecDepth 100000 in
set_option maxHeartbeats 1000000 in
open Classical in
theorem new_evbad (nb np : Nat) (p : Option Addr) (n c : Nat) (es : List Ev) (f : Nat → Option Addr × Nat × Nat) (w : World) (hx : EvSrc w p n c es f) (hg : GeoOk nb np) (hok : okEvs 0 es = false) :
    Calls Try.prog 9 #[.agg #[.int .i64 (nb : Int), .int .i64 (np : Int)], .slice none 0 0, .slice p n c] w fun e w' => e = .returned (.tuple #[.pointer none, .int .i64 21]) ∧ Below w.heap.size w w' := by
  obtain ⟨i0, hi, hz0, hz1, hz2⟩ := info_parts infoBlk
  have hb0 := below_alloc w (.cells #[.int .i64 (nb : Int), .int .i64 (np : Int)] 23)
  have hm := mayBe_any nb np (w.alloc (.cells #[.int .i64 (nb : Int), .int .i64 (np : Int)] 23))
  rw [decide_eq_true hg] at hm
  have hnb : nb ≤ 256 := by unfold GeoOk at hg; omega
  clear hg
  have hG := Blk.new' w 23 #[.int .i64 (nb : Int), .int .i64 (np : Int)]
  go_enter Try.func9, Try.ntmps9
  go_wp2_with (first
    | (go_at_call 28; refine hm.mono ?_; rintro e w1 ⟨rfl, hb1⟩; have hG1 := hG.kept hb1; have hg0 := hG1.cell' (i := 0) rfl; have hg1 := hG1.cell' (i := 1) rfl)
    | (at_make; refine wpList_make_full _ rfl _ _ 76 rfl 0 78 i0 _ 4 Try.underlying76 hi hz0 hz1 .i64 .i64 _ _ nb rfl rfl rfl rfl (by rw [hz2]; omega) (by unfold maxLen; omega) (Nat.zero_le _) ?_; intro w2 hown2 hgrow2))
  have hb2 := below_grown0 hgrow2
  have hw2 : Below w.heap.size w w2 := bt (bt hb0 hb1) hb2
  have hx2 := hx.below hw2
  have HK : Hid (okEvs 0 es = false) := hok
  clear hm hown2 hgrow2 hok hg0 hg1 hz0 hz1 hz2 hi
  go_loopw [21] (fun i wr => i = .int .i64 0 ∧ wr = w2) (fun _ _ => 0)
  case atStart => exact ⟨rfl, rfl⟩
  case round =>
    obtain ⟨rfl, rfl⟩ := hrel
    go_wp2_with (go_at_call 29; refine (keep_any p n c es f _ hx2).mono ?_; rintro e w3 ⟨hb3, hk3⟩; obtain rfl := keep_no hk3 HK.out)
    go_ret2
    exact ⟨rfl, bt hw2 hb3⟩
/-- A place's page in a block that Program has put one to. -/
theorem putP_getD (ps : List (List Nat)) (n : Nat) (x : List Nat) (h : ps.length ≤ n) (i : Nat) : (putP ps n x).getD i blankP = if i = n then x else ps.getD i blankP := by
  unfold putP
  rw [List.getD_eq_getElem?_getD, List.getD_eq_getElem?_getD]
  by_cases hi : i = n
  · subst hi
    rw [if_pos rfl, List.getElem?_append_right (by simp; omega)]
    simp only [List.length_append, List.length_replicate]
    rw [show i - (ps.length + (i - ps.length)) = 0 from by omega]
    rfl
  · rw [if_neg hi]
    by_cases h1 : i < ps.length
    · rw [List.getElem?_append_left (by simp; omega), List.getElem?_append_left h1]
    · by_cases h2 : i < n
      · rw [List.getElem?_append_left (by simp; omega), List.getElem?_append_right (by omega), List.getElem?_replicate, if_pos (by omega), List.getElem?_eq_none (by omega)]
        rfl
      · rw [List.getElem?_eq_none (by simp; omega), List.getElem?_eq_none (by omega)]
theorem allP_get (np : Nat) (k : BlkS) (i : Nat) : (allP np k)[i]? = if i < np then some (k.pages.getD i blankP) else none := by
  unfold allP
  rw [List.getElem?_map]
  by_cases h : i < np
  · rw [List.getElem?_range h, if_pos h]; rfl
  · rw [if_neg h, List.getElem?_eq_none (by simp; omega)]; rfl
/-- A block that a call is not on is as it was. -/
theorem stepSt_other {s : St} {bk : Nat} {K : BlkS} {b : Int} (h : b ≠ (bk : Int)) : blkAt (stepSt s bk K) b = blkAt s b := by
  unfold blkAt stepSt
  split
  · rw [List.getElem?_set_ne (by omega)]
  · rfl
theorem stepSt_own {s : St} {bk : Nat} {K : BlkS} (h : bk < s.bl.length) : blkAt (stepSt s bk K) (bk : Int) = some K := by
  rw [blkAt_nat]
  show (s.bl.set bk K)[bk]? = _
  rw [List.getElem?_set_self h]
/-- The pages behind Program, place by place. -/
theorem prog_pages {w : World} {c : Nat} {s : St} {bb : Nat} {PV : Nat → Value} (hC : ChipIn w c s bb PV) (hev : Kinds s) (b p : Int) (x : List Nat) (t : Int) (i : Nat) :
    (¬ (t = b ∧ (i : Int) = p) → (pagesOf (progSt s b p x) t)[i]? = (pagesOf s t)[i]?) ∧ (t = b → (i : Int) = p → progE s b p = 0 → (pagesOf (progSt s b p x) t)[i]? = some x) ∧ (pagesOf (progSt s b p x) t).length = (pagesOf s t).length := by
  by_cases h0 : reachE s.nb s.np s.on b p = 0
  · obtain ⟨bk, pk, rfl, rfl, hbk, hpk, hon⟩ := reach_ok h0
    obtain ⟨K, hK⟩ := hC.get bk hbk
    have hlim := hC.lim K (List.mem_of_getElem? hK)
    by_cases hbad : K.bad = true
    · have e1 : progSt s bk pk x = s := by unfold progSt; rw [if_pos h0]; simp [hK, hbad]
      have e2 : progE s bk pk = 23 := by unfold progE; rw [if_pos h0]; simp [hK, hbad]
      rw [e1, e2]
      exact ⟨fun _ => rfl, (fun _ _ h => by cases h), rfl⟩
    · have hbad' : K.bad = false := by simpa using hbad
      by_cases hd : pk < K.next
      · have e1 : progSt s bk pk x = s := by unfold progSt; rw [if_pos h0]; simp [hK, hbad', hd]
        have e2 : progE s bk pk = 24 := by unfold progE; rw [if_pos h0]; simp [hK, hbad', hd]
        rw [e1, e2]
        exact ⟨fun _ => rfl, (fun _ _ h => by cases h), rfl⟩
      · have e1 : progSt s bk pk x = stepSt s bk { K with pages := putP K.pages pk (tornX x (nextEv s.ev (s.ops + 1))), next := pk + 1 } := by unfold progSt; rw [if_pos h0]; simp [hK, hbad', hd]
        have e2 : progE s bk pk = outE (nextEv s.ev (s.ops + 1)).kind := by unfold progE; rw [if_pos h0]; simp [hK, hbad', hd]
        rw [e1, e2]
        by_cases ht : t = (bk : Int)
        · subst ht
          have hown := stepSt_own (s := s) (bk := bk) (K := { K with pages := putP K.pages pk (tornX x (nextEv s.ev (s.ops + 1))), next := pk + 1 }) (by rw [hC.bll]; exact hbk)
          have hold : blkAt s (bk : Int) = some K := by rw [blkAt_nat]; exact hK
          unfold pagesOf
          rw [hown, hold]
          show (¬ _ → (allP s.np _)[i]? = (allP s.np K)[i]?) ∧ (_ → _ → _ → (allP s.np _)[i]? = some x) ∧ (allP s.np _).length = (allP s.np K).length
          rw [allP_get, allP_get, allP_length, allP_length]
          dsimp only
          rw [putP_getD _ _ _ (by omega)]
          refine ⟨fun hn => ?_, fun _ hi he => ?_, rfl⟩
          · have hne : ¬ i = pk := fun h => hn ⟨rfl, by omega⟩
            simp only [if_neg hne]
          · rw [if_pos (by omega), if_pos (by omega)]
            unfold tornX
            rw [if_pos (hev.next _ he)]
        · have ho := stepSt_other (s := s) (K := { K with pages := putP K.pages pk (tornX x (nextEv s.ev (s.ops + 1))), next := pk + 1 }) ht
          unfold pagesOf
          rw [ho]
          exact ⟨fun _ => rfl, fun h => (ht h).elim, rfl⟩
  · have e1 : progSt s b p x = s := by unfold progSt; rw [if_neg h0]
    have e2 : progE s b p = reachE s.nb s.np s.on b p := by unfold progE; rw [if_neg h0]
    rw [e1, e2]
    exact ⟨fun _ => rfl, fun _ _ h => (h0 h).elim, rfl⟩
/-- The pages behind Erase, of another block; how many there are. -/
theorem erase_pages {w : World} {c : Nat} {s : St} {bb : Nat} {PV : Nat → Value} (hC : ChipIn w c s bb PV) (b : Int) (t : Int) :
    (t ≠ b → pagesOf (eraseSt s b) t = pagesOf s t) ∧ (pagesOf (eraseSt s b) t).length = (pagesOf s t).length := by
  by_cases h0 : reachE s.nb s.np s.on b 0 = 0
  · obtain ⟨bk, hbk, rfl⟩ : ∃ bk : Nat, bk < s.nb ∧ b = (bk : Int) := by obtain ⟨bk, _, hb, _, hbk, _⟩ := reach_ok h0; exact ⟨bk, hbk, hb⟩
    obtain ⟨K, hK⟩ := hC.get bk hbk
    by_cases hbad : K.bad = true
    · have e1 : eraseSt s bk = s := by unfold eraseSt; rw [if_pos h0]; simp [hK, hbad]
      rw [e1]
      exact ⟨fun _ => rfl, rfl⟩
    · have hbad' : K.bad = false := by simpa using hbad
      have e1 : eraseSt s bk = stepSt s bk (erasedB s.np K (nextEv s.ev (s.ops + 1))) := by unfold eraseSt; rw [if_pos h0]; simp [hK, hbad']
      rw [e1]
      by_cases ht : t = (bk : Int)
      · subst ht
        refine ⟨fun h => (h rfl).elim, ?_⟩
        have hown := stepSt_own (s := s) (bk := bk) (K := erasedB s.np K (nextEv s.ev (s.ops + 1))) (by rw [hC.bll]; exact hbk)
        have hold : blkAt s (bk : Int) = some K := by rw [blkAt_nat]; exact hK
        unfold pagesOf
        rw [hown, hold]
        show (allP s.np _).length = (allP s.np K).length
        rw [allP_length, allP_length]
      · have ho := stepSt_other (s := s) (K := erasedB s.np K (nextEv s.ev (s.ops + 1))) ht
        unfold pagesOf
        rw [ho]
        exact ⟨fun _ => rfl, rfl⟩
  · have e1 : eraseSt s b = s := by unfold eraseSt; rw [if_neg h0]
    rw [e1]
    exact ⟨fun _ => rfl, rfl⟩
theorem restEv_sub (es : List Ev) (n : Nat) : ∀ e ∈ restEv es n, e ∈ es := by
  intro e he
  unfold restEv at he
  split at he
  · split at he
    · exact List.mem_cons_of_mem _ he
    · exact he
  · simp at he
theorem stepSt_kinds {s : St} (h : Kinds s) (b : Nat) (K : BlkS) : Kinds (stepSt s b K) := fun e he => h e (restEv_sub _ _ e he)
theorem doesSt_kinds {s : St} (h : Kinds s) (o : CallS) : Kinds (doesSt s o) := by
  unfold doesSt
  split
  · unfold progSt
    split
    · split
      · split
        · exact h
        · split
          · exact h
          · exact stepSt_kinds h _ _
      · exact h
    · exact h
  · split
    · unfold eraseSt
      split
      · split
        · split
          · exact h
          · exact stepSt_kinds h _ _
        · exact h
      · exact h
    · split
      · exact h
      · exact h
/-- Whether a call is on a page. -/
def onP (s : St) (o : CallS) (t : Int) (i : Nat) : Prop := o.ob = t ∧ (o.od = 1 ∨ o.od = 0 ∧ (i : Int) = pgOf s o)
/-- The plain heart of P2.6. -/
theorem stays {w : World} {c : Nat} {s : St} {bb : Nat} {PV : Nat → Value} (hC : ChipIn w c s bb PV) (hev : Kinds s) (o : CallS) (t : Int) (i : Nat) :
    (¬ onP s o t i → (pagesOf (doesSt s o) t)[i]? = (pagesOf s t)[i]?) ∧ (onP s o t i → o.od = 0 → doesE s o = 0 → (pagesOf (doesSt s o) t)[i]? = some (fillP o.f)) ∧ (pagesOf (doesSt s o) t).length = (pagesOf s t).length := by
  unfold doesSt doesE onP
  by_cases h0 : o.od = 0
  · rw [if_pos h0, if_pos h0]
    obtain ⟨a, b, l⟩ := prog_pages hC hev o.ob (pgOf s o) (fillP o.f) t i
    refine ⟨fun hn => a (fun h => hn ⟨h.1.symm, .inr ⟨h0, h.2⟩⟩), fun h _ he => ?_, l⟩
    obtain ⟨h1, h2 | h2⟩ := h
    · omega
    · exact b h1.symm h2.2 he
  · rw [if_neg h0, if_neg h0]
    by_cases h1 : o.od = 1
    · rw [if_pos h1]
      obtain ⟨a, l⟩ := erase_pages hC o.ob t
      exact ⟨fun hn => by rw [a (fun h => hn ⟨h.symm, .inl h1⟩)], fun _ h => (h0 h).elim, l⟩
    · rw [if_neg h1]
      have hs : pagesOf (if o.od = 3 then { s with on := true } else s) t = pagesOf s t := by split <;> rfl
      rw [hs]
      exact ⟨fun _ => rfl, fun _ h => (h0 h).elim, rfl⟩
end Go.Proofs.Ythafcnilhloldaa
