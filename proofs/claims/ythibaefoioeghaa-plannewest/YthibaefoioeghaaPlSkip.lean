/-
  Passing over a page of the last random log.
-/
import Derived.Test.YthibaefoioeghaaPlFresh
namespace Go.Proofs.Ythibaefoioeghaa
open Go.RowKit
def zeroT : Tab := ⟨0, 0, 0, [], [], 0, 0, 0, []⟩
/-- A page more in the last log. -/
def addPg (T : Tab) (x : Int) : Tab := { T with logs := T.logs.set (T.logs.length - 1) ⟨(T.logs.getD (T.logs.length - 1) ⟨0, []⟩).phys, (T.logs.getD (T.logs.length - 1) ⟨0, []⟩).pages ++ [x]⟩ }
theorem addPg_with {T : Tab} {R : List LR} {n : Nat} {r : LR} {p : Option Addr} {c : Nat} {x : Int} (hR : T.logs = R.map LR.log) (hn : R.length = n + 1) (hr : R[n]? = some r) : T.with (R.set n ⟨r.phys, p, c, r.pages ++ [x]⟩) = addPg T x := by
  have hl : T.logs.length - 1 = n := by rw [hR, List.length_map, hn]; rfl
  have hg : T.logs.getD n ⟨0, []⟩ = r.log := by rw [List.getD_eq_getElem?_getD, hR, List.getElem?_map, hr]; rfl
  unfold Tab.with addPg
  rw [hl, hg, List.map_set, ← hR]
  rfl
def skipE (T : Tab) (kind : Int) : Int := if okT T then (if kind = 2 ∧ room T = true then 0 else 51) else 50
theorem may_rand (T : Tab) (P : Nat) : mayP T P 2 = room T := by simp [mayP]
theorem room_last {T : Tab} (h : room T = true) : 0 < T.logs.length := by
  unfold room at h
  cases hl : T.logs with
  | nil => rw [hl] at h; simp at h
  | cons a b => simp
set_option linter.unusedSimpArgs false in
set_option maxRecDepth 100000 in
set_option maxHeartbeats 8000000 in
theorem skip_any (V : TabV) (T : Tab) (kind blk : Int) (w : World) (h : TabIn w V T) :
    Calls Try.prog 17 #[.agg (tabA V T), .agg #[.int .i64 kind, .int .i64 blk]] w fun e w' => (∃ V' T' R', e = .returned (.tuple #[.agg (tabA V' T'), .int .i64 (skipE T kind)]) ∧ (skipE T kind = 0 → T' = addPg T (-1) ∧ OwnT w.heap.size w' V' T' R')) ∧ Below w.heap.size w w' := by
  have hb0 := bt (bt (below_alloc w (.cells (tabA V T) 28)) (below_alloc _ (.cells #[.int .i64 kind, .int .i64 blk] 30))) (below_alloc _ (.cells #[.int .i64 0, .int .i64 0, .int .i64 0, .slice none 0 0, .slice none 0 0, .int .i64 0, .int .i64 0, .int .i64 0, .slice none 0 0] 28))
  have b0 := ((Blk.new' w 28 (tabA V T)).alloc (.cells #[.int .i64 kind, .int .i64 blk] 30)).alloc (.cells #[.int .i64 0, .int .i64 0, .int .i64 0, .slice none 0 0, .slice none 0 0, .int .i64 0, .int .i64 0, .int .i64 0, .slice none 0 0] 28)
  have s0 := (Blk.new' (w.alloc (.cells (tabA V T) 28)) 30 #[.int .i64 kind, .int .i64 blk]).alloc (.cells #[.int .i64 0, .int .i64 0, .int .i64 0, .slice none 0 0, .slice none 0 0, .int .i64 0, .int .i64 0, .int .i64 0, .slice none 0 0] 28)
  have r0 := Blk.new' ((w.alloc (.cells (tabA V T) 28)).alloc (.cells #[.int .i64 kind, .int .i64 blk] 30)) 28 #[.int .i64 0, .int .i64 0, .int .i64 0, .slice none 0 0, .slice none 0 0, .int .i64 0, .int .i64 0, .int .i64 0, .slice none 0 0]
  rw [World.size_alloc] at s0
  rw [World.size_alloc, World.size_alloc] at r0
  have hT := h.below hb0
  have hc := check_any V T _ hT
  cases hok : okT T with
  | false =>
    have HE : Hid (skipE T kind = 50) := by show _ = _; unfold skipE; rw [hok]; rfl
    rw [checkE_bad hok] at hc
    clear hok
    unfold tabA at hb0 b0 s0 r0 hc ⊢
    go_enter Try.func17, Try.ntmps17
    go_wp2_with (first | (go_at_call 19; refine hc.mono ?_; rintro e w1 ⟨rfl, hb1⟩; have b1 := b0.kept hb1; have s1 := s0.kept hb1; have r1 := r0.kept hb1; have t0 := s1.cell' (i := 0) rfl; have t1 := s1.cell' (i := 1) rfl; have y0 := b1.cell' (i := 0) rfl; have y1 := b1.cell' (i := 1) rfl; have y2 := b1.cell' (i := 2) rfl; have y3 := b1.cell' (i := 3) rfl; have y4 := b1.cell' (i := 4) rfl; have y5 := b1.cell' (i := 5) rfl; have y6 := b1.cell' (i := 6) rfl; have y7 := b1.cell' (i := 7) rfl; have y8 := b1.cell' (i := 8) rfl) | (guard_target = wpList _ _ _ (Oper.mk _ (Op.store 28 (Operand.tmp 4) _) _ _ _ _ :: _) _ _; refine wpList_store_blk rfl 28 (.tmp 4) (.tmp 12) rfl (w.heap.size + 2) 0 (tabC ⟨none, 0, 0, none, 0, 0, none, 0, 0⟩ zeroT) rfl rfl r1 (by exact Nat.le_refl _) (tabSize _ _) (tabOne _ _) ?_; intro W9 h9 ht9; rw [whole_row (by rfl)] at h9))
    refine ret_tabE Try.results17 rfl h9 rfl rfl ⟨⟨_, _, [], by rw [HE.out]; rfl, fun h' => by rw [HE.out] at h'; cases h'⟩, ht9.below (bt hb0 hb1) (by omega)⟩
  | true =>
    obtain ⟨P, L, hF⟩ := okT_facts hok hT
    have hma := fun w' (hb : Below _ _ w') => may_any V T P kind w' (hT.below hb) hF.pg hF.p0 hF.po hF.nl
    have HE : Hid (skipE T kind = if kind = 2 ∧ room T = true then 0 else 51) := by show _ = _; unfold skipE; rw [hok]; rfl
    rw [checkE_ok hok] at hc
    unfold tabA at hb0 b0 s0 r0 hc hma ⊢
    by_cases hk : kind = 2
    · subst hk
      rw [may_rand] at hma
      cases hr : room T with
      | false =>
        have HE2 : Hid (skipE T 2 = 51) := by show _ = _; rw [HE.out, if_neg (by rw [hr]; simp)]
        rw [hr] at hma
        clear hF hok hr
        go_enter Try.func17, Try.ntmps17
        go_wp2_with (first | (go_at_call 19; refine hc.mono ?_; rintro e w1 ⟨rfl, hb1⟩; have b1 := b0.kept hb1; have s1 := s0.kept hb1; have r1 := r0.kept hb1; have t0 := s1.cell' (i := 0) rfl; have t1 := s1.cell' (i := 1) rfl; have y0 := b1.cell' (i := 0) rfl; have y1 := b1.cell' (i := 1) rfl; have y2 := b1.cell' (i := 2) rfl; have y3 := b1.cell' (i := 3) rfl; have y4 := b1.cell' (i := 4) rfl; have y5 := b1.cell' (i := 5) rfl; have y6 := b1.cell' (i := 6) rfl; have y7 := b1.cell' (i := 7) rfl; have y8 := b1.cell' (i := 8) rfl) | (go_at_call 31; refine (hma _ hb1).mono ?_; rintro e w2 ⟨rfl, hb2⟩; have b2 := b1.kept hb2; have s2 := s1.kept hb2; have r2 := r1.kept hb2; have z0 := b2.cell' (i := 0) rfl; have z1 := b2.cell' (i := 1) rfl; have z2 := b2.cell' (i := 2) rfl; have z3 := b2.cell' (i := 3) rfl; have z4 := b2.cell' (i := 4) rfl; have z5 := b2.cell' (i := 5) rfl; have z6 := b2.cell' (i := 6) rfl; have z7 := b2.cell' (i := 7) rfl; have z8 := b2.cell' (i := 8) rfl) | (guard_target = wpList _ _ _ (Oper.mk _ (Op.store 28 (Operand.tmp 4) _) _ _ _ _ :: _) _ _; refine wpList_store_blk rfl 28 (.tmp 4) (.tmp 24) rfl (w.heap.size + 2) 0 (tabC ⟨none, 0, 0, none, 0, 0, none, 0, 0⟩ zeroT) rfl rfl r2 (by exact Nat.le_refl _) (tabSize _ _) (tabOne _ _) ?_; intro W9 h9 ht9; rw [whole_row (by rfl)] at h9))
        refine ret_tabE Try.results17 rfl h9 rfl rfl ⟨⟨_, _, [], by rw [HE2.out]; rfl, fun h' => by rw [HE2.out] at h'; cases h'⟩, ht9.below (bt (bt hb0 hb1) hb2) (by omega)⟩
      | true =>
        have HE2 : Hid (skipE T 2 = 0) := by show _ = _; rw [HE.out, if_pos ⟨rfl, hr⟩]
        have hpos := room_last hr
        rw [hr] at hma
        obtain ⟨n, hn⟩ : ∃ n, V.nl = n + 1 := ⟨V.nl - 1, by rw [hT.logs.len] at hpos; omega⟩
        have HN : Hid (V.nl = n + 1 ∧ V.nl ≤ 8) := ⟨hn, hF.nl⟩
        have hcp := fun w' (hb : Below _ _ w') => copied_any V T w' (hT.below hb) (by have := hF.nd; have := hF.l0; omega) (by have := hF.nh; have := Nat.mul_le_mul hF.l0.2 hF.p0.2; omega) (by have := hF.nl; omega) (fun i l hl => by have := hF.len i l hl; have := hF.p0; omega)
        have HLEN : Hid (∀ (i : Nat) (l : LogS), T.logs[i]? = some l → l.pages.length ≤ P) := hF.len
        have HP0 : Hid (P ≤ 32) := hF.p0.2
        have HLL : Hid (T.logs.length = V.nl) := hT.logs.len
        unfold tabA at hcp
        clear hF hok hr hpos hn
        go_enter Try.func17, Try.ntmps17
        go_upto_region 6 with (first | (go_at_call 19; refine hc.mono ?_; rintro e w1 ⟨rfl, hb1⟩; have b1 := b0.kept hb1; have s1 := s0.kept hb1; have r1 := r0.kept hb1; have t0 := s1.cell' (i := 0) rfl; have t1 := s1.cell' (i := 1) rfl; have y0 := b1.cell' (i := 0) rfl; have y1 := b1.cell' (i := 1) rfl; have y2 := b1.cell' (i := 2) rfl; have y3 := b1.cell' (i := 3) rfl; have y4 := b1.cell' (i := 4) rfl; have y5 := b1.cell' (i := 5) rfl; have y6 := b1.cell' (i := 6) rfl; have y7 := b1.cell' (i := 7) rfl; have y8 := b1.cell' (i := 8) rfl) | (go_at_call 31; refine (hma _ hb1).mono ?_; rintro e w2 ⟨rfl, hb2⟩; have b2 := b1.kept hb2; have s2 := s1.kept hb2; have r2 := r1.kept hb2; have z0 := b2.cell' (i := 0) rfl; have z1 := b2.cell' (i := 1) rfl; have z2 := b2.cell' (i := 2) rfl; have z3 := b2.cell' (i := 3) rfl; have z4 := b2.cell' (i := 4) rfl; have z5 := b2.cell' (i := 5) rfl; have z6 := b2.cell' (i := 6) rfl; have z7 := b2.cell' (i := 7) rfl; have z8 := b2.cell' (i := 8) rfl))
        have hbel := bt (bt hb0 hb1) hb2
        have hcp2 := hcp w2 (bt hb1 hb2)
        clear hcp hma hc b1 s1 r1 hb1 hb2 s0 r0 b0 hb0 s2 hT
        go_upto_region 7 with (first | (go_at_call 38; refine hcp2.mono ?_; rintro e w3 ⟨V1, R1, rfl, -, -, hnl1, hown, k3⟩; have hnl2 : Hid (V1.nl = V.nl) := hnl1; clear hnl1) | (refine wpList_store_blk rfl 28 (.tmp 7) (.tmp 26) rfl w3.heap.size 0 (tabC V1 T) rfl rfl (Blk.new' w3 28 #[.int .i64 0, .int .i64 0, .int .i64 0, .slice none 0 0, .slice none 0 0, .int .i64 0, .int .i64 0, .int .i64 0, .slice none 0 0]) (by exact Nat.le_refl _) (tabSize _ _) (tabOne _ _) ?_; intro W4 h4 ht4; rw [whole_row (by rfl)] at h4))
        have k4 : Below w3.heap.size w3 W4 := ht4.below (below_alloc w3 _) (Nat.le_refl _)
        replace hown := hown.next k4
        have r4 := (r2.kept k3).kept k4
        have hbel4 := bt (bt hbel k3) k4
        have hsz2 : w2.heap.size ≤ W4.heap.size := Nat.le_trans k3.size k4.size
        have hR1 : R1.length = n + 1 := by rw [← HN.out.1, ← HLL.out, hown.logs, List.length_map]
        obtain ⟨r, hr⟩ : ∃ r, R1[n]? = some r := ⟨_, List.getElem?_eq_getElem (by omega)⟩
        have hap := appendPage_any w2.heap.size V1 T R1 n r (-1) W4 hsz2 hown (by rw [hnl2.out]; exact HN.out.1) (by rw [hnl2.out]; exact HN.out.2) hr (by have := HLEN.out n r.log (by rw [hown.logs, List.getElem?_map, hr]; rfl); have := HP0.out; show r.log.pages.length ≤ _; omega)
        have HAW : Hid (∀ p c, T.with (R1.set n ⟨r.phys, p, c, r.pages ++ [-1]⟩) = addPg T (-1)) := fun p c => addPg_with hown.logs hR1 hr
        have hwsz := hbel.size
        have hr2 := r2.lt
        unfold tabA at hap
        unfold tabC at h4
        clear hcp2 hbel r2 ht4 k3 k4 hown
        have y0 := h4.cell' (i := 0) rfl; have y1 := h4.cell' (i := 1) rfl; have y2 := h4.cell' (i := 2) rfl; have y3 := h4.cell' (i := 3) rfl; have y4 := h4.cell' (i := 4) rfl; have y5 := h4.cell' (i := 5) rfl; have y6 := h4.cell' (i := 6) rfl; have y7 := h4.cell' (i := 7) rfl; have y8 := h4.cell' (i := 8) rfl
        go_upto_region 8 with (go_at_call 44; refine hap.mono ?_; rintro e w5 ⟨p5, c5, rfl, hown5, k5, keep5⟩)
        rw [HAW.out] at hown5
        have h5 := keep5 _ _ h4
        have r5 := keep5 _ _ r4
        have z0 := h5.cell' (i := 0) rfl; have z1 := h5.cell' (i := 1) rfl; have z2 := h5.cell' (i := 2) rfl; have z3 := h5.cell' (i := 3) rfl; have z4 := h5.cell' (i := 4) rfl; have z5 := h5.cell' (i := 5) rfl; have z6 := h5.cell' (i := 6) rfl; have z7 := h5.cell' (i := 7) rfl; have z8 := h5.cell' (i := 8) rfl
        go_wp2_with (guard_target = wpList _ _ _ (Oper.mk _ (Op.store 28 (Operand.tmp 4) _) _ _ _ _ :: _) _ _; refine wpList_store_blk rfl 28 (.tmp 4) (.tmp 29) rfl (w.heap.size + 2) 0 (tabC V1 T) rfl rfl r5 (by exact Nat.le_refl _) (tabSize _ _) (tabOne _ _) ?_; intro W9 h9 ht9; rw [whole_row (by rfl)] at h9)
        refine ret_tabE Try.results17 rfl h9 rfl rfl ⟨⟨V1, addPg T (-1), _, by rw [HE2.out]; rfl, fun _ => ⟨rfl, (hown5.turnedAt ht9 (by omega)).low hwsz⟩⟩, ht9.below (hbel4.trans (k5.mono hwsz)) (by omega)⟩
    · have HE2 : Hid (skipE T kind = 51) := by show _ = _; rw [HE.out, if_neg (fun h' => hk h'.1)]
      have hk' : (kind == 2) = false := by simpa using hk
      have hk2 : decide (kind = 2) = false := by simpa using hk
      clear hF hok
      go_enter Try.func17, Try.ntmps17
      go_wp2_with (first | (go_at_call 19; refine hc.mono ?_; rintro e w1 ⟨rfl, hb1⟩; have b1 := b0.kept hb1; have s1 := s0.kept hb1; have r1 := r0.kept hb1; have t0 := s1.cell' (i := 0) rfl; have t1 := s1.cell' (i := 1) rfl; have y0 := b1.cell' (i := 0) rfl; have y1 := b1.cell' (i := 1) rfl; have y2 := b1.cell' (i := 2) rfl; have y3 := b1.cell' (i := 3) rfl; have y4 := b1.cell' (i := 4) rfl; have y5 := b1.cell' (i := 5) rfl; have y6 := b1.cell' (i := 6) rfl; have y7 := b1.cell' (i := 7) rfl; have y8 := b1.cell' (i := 8) rfl) | (guard_target = wpList _ _ _ (Oper.mk _ (Op.store 28 (Operand.tmp 4) _) _ _ _ _ :: _) _ _; refine wpList_store_blk rfl 28 (.tmp 4) (.tmp 24) rfl (w.heap.size + 2) 0 (tabC ⟨none, 0, 0, none, 0, 0, none, 0, 0⟩ zeroT) rfl rfl r1 (by exact Nat.le_refl _) (tabSize _ _) (tabOne _ _) ?_; intro W9 h9 ht9; rw [whole_row (by rfl)] at h9))
      refine ret_tabE Try.results17 rfl h9 rfl rfl ⟨⟨_, _, [], by rw [HE2.out]; rfl, fun h' => by rw [HE2.out] at h'; cases h'⟩, ht9.below (bt hb0 hb1) (by omega)⟩
end Go.Proofs.Ythibaefoioeghaa
