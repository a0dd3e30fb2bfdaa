/-
  A table with its first log dropped.
-/
import Derived.Test.YthibaefoioeghaaPlDel
namespace Go.Proofs.Ythibaefoioeghaa
open Go.RowKit
theorem results_tmp_tmp {fn : Func} {p u v : Tmp} {ty : TypeId} (h : fn.results = #[.cell p ty, .tmp u, .tmp v]) (tmps : Array Value) (P : Program) (w : World) :
    (results fn tmps).run P w = ((asAddr (tmps.getD p undef)).run P w).andThen fun a w₁ => ((loadVar ty a).run P w₁).andThen fun x w₂ => .ok (.tuple #[x, tmps.getD u undef, tmps.getD v undef]) w₂ := by
  simp only [results, h]
  simp [Sem.run_bind, Result.andThen]
theorem ret_tabIE {fn : Func} {p q u : Tmp} (h : fn.results = #[.cell p 28, .tmp q, .tmp u]) {R : Ending → World → Prop} {a : Act} {w : World} {g : Nat} {t : TypeId} {V : TabV} {T : Tab} {v x : Value} (hp : a.tmps.getD p undef = .pointer (some ⟨g, 0, none⟩))
    (hb : Blk w g t (tabC V T)) (hd : a.defers = []) (hq : a.tmps.getD q undef = x) (hu : a.tmps.getD u undef = v) (hR : R (.returned (.tuple #[.agg (tabA V T), x, v])) w) : bodyPost Try.prog fn R .ret a w := by
  refine bodyPost_ret (v := .tuple #[.agg (tabA V T), x, v]) ?_ hd hR
  rw [results_tmp_tmp h, hp, hq, hu]
  have := run_loadVar_mid w g 0 28 (tabC V T) _ (hb.range 0 9 _ rfl) Try.underlying28 rfl (by kernel_rfl)
  simp only [asAddr, Sem.run_pure, Result.andThen_ok, this]
  rfl
theorem Turned.cell {w w' : World} {g : Nat} (h : Turned w w' g) {a : Addr} (ha : a.block ≠ g) : w'.cell? a = w.cell? a := by simp only [World.cell?, h.block _ ha]
def dropE (T : Tab) : Int := if okT T then (if mayP T T.pages.toNat 9 = true then 0 else 51) else 50
theorem LR.eta (r : LR) : (⟨r.phys, r.p, r.c, r.pages⟩ : LR) = r := rfl
theorem may_drop {T : Tab} {P : Nat} (h : mayP T P 9 = true) : victimP T = -1 ∧ 0 < T.logs.length := by
  unfold mayP at h
  rw [if_neg (by decide), if_neg (by decide), if_neg (by decide), if_neg (by decide), if_pos rfl] at h
  simpa using h
/-- The table without its first log, in new memory. -/
theorem OwnT.drop {B g : Nat} {w w' : World} {V : TabV} {T : Tab} {r : LR} {R : List LR} {m c : Nat} (h : OwnT B w V T (r :: R)) (hp : V.pl = some ⟨g, 0, none⟩) (hm : V.nl = m + 1)
    (hl : w'.ownsRow B 61 2 (.slice (some ⟨g, 0, none⟩) m c) m ((flatR (r :: R)).drop 2)) (ht : Turned w w' g) : OwnT B w' ⟨V.pd, V.nd, V.cd, V.ph, V.nh, V.ch, some ⟨g, 0, none⟩, m, c⟩ (dropT T) R := by
  have hll := h.l
  have hf : (flatR (r :: R)).drop 2 = flatR R := rfl
  rw [hf] at hl
  have key : ∀ (a : Addr) {e : TypeId} {s n k : Nat} {p : Option Addr} {xs : List Value}, w.ownsRow B e s (.slice p n k) n xs → e ≠ 61 → p = some a → a.block ≠ g := fun a e s n k p xs hh he ha => owns_ne he hh hll a _ ha hp
  refine ⟨?_, owns_turned h.d ht (fun a ha => key a h.d (by decide) ha), owns_turned h.h ht (fun a ha => key a h.h (by decide) ha), hl, fun i s hs => ?_, fun i j s u a b hij hs hu ha hb => ?_, fun i s a b hs ha hb => ?_, h.sm.1, h.sm.2.1, ?_, fun i s hs => h.sm.2.2.2 (i + 1) s hs⟩
  · show T.logs.tail = _
    rw [h.logs]; rfl
  · have hr := h.r (i + 1) s hs
    exact owns_turned hr ht (fun a ha => key a hr (by decide) ha)
  · exact h.ap (i + 1) (j + 1) s u a b (by omega) hs hu ha hb
  · exact h.ad (i + 1) s a b hs ha hb
  · have := h.sm.2.2.1
    show m ≤ _
    omega
set_option linter.unusedSimpArgs false in
set_option linter.unusedVariables false in
set_option maxRecDepth 100000 in
set_option maxHeartbeats 8000000 in
theorem dropped_any (V : TabV) (T : Tab) (w : World) (h : TabIn w V T) :
    Calls Try.prog 22 #[.agg (tabA V T)] w fun e w' => (∃ V' T' R' x, e = .returned (.tuple #[.agg (tabA V' T'), .int .i64 x, .int .i64 (dropE T)]) ∧ (dropE T = 0 → mayP T T.pages.toNat 9 = true ∧ T' = dropT T ∧ x = (T.logs.getD 0 ⟨0, []⟩).phys ∧ OwnT w.heap.size w' V' T' R')) ∧ Below w.heap.size w w' := by
  have hb0 := bt (below_alloc w (.cells (tabA V T) 28)) (below_alloc (w.alloc (.cells (tabA V T) 28)) (.cells #[.int .i64 0, .int .i64 0, .int .i64 0, .slice none 0 0, .slice none 0 0, .int .i64 0, .int .i64 0, .int .i64 0, .slice none 0 0] 28))
  have b0 := (Blk.new' w 28 (tabA V T)).alloc (.cells #[.int .i64 0, .int .i64 0, .int .i64 0, .slice none 0 0, .slice none 0 0, .int .i64 0, .int .i64 0, .int .i64 0, .slice none 0 0] 28)
  have r0 := Blk.new' (w.alloc (.cells (tabA V T) 28)) 28 #[.int .i64 0, .int .i64 0, .int .i64 0, .slice none 0 0, .slice none 0 0, .int .i64 0, .int .i64 0, .int .i64 0, .slice none 0 0]
  rw [World.size_alloc] at r0
  have hT := h.below hb0
  have hc := check_any V T _ hT
  cases hok : okT T with
  | false =>
    have HE2 : Hid (dropE T = 50) := by show _ = _; unfold dropE; rw [hok]; rfl
    rw [checkE_bad hok] at hc
    clear hok
    unfold tabA at hb0 b0 r0 hc ⊢
    go_enter Try.func22, Try.ntmps22
    go_wp2_with (first | (go_at_call 19; refine hc.mono ?_; rintro e w1 ⟨rfl, hb1⟩; have b1 := b0.kept hb1; have r1 := r0.kept hb1; have y0 := b1.cell' (i := 0) rfl; have y1 := b1.cell' (i := 1) rfl; have y2 := b1.cell' (i := 2) rfl; have y3 := b1.cell' (i := 3) rfl; have y4 := b1.cell' (i := 4) rfl; have y5 := b1.cell' (i := 5) rfl; have y6 := b1.cell' (i := 6) rfl; have y7 := b1.cell' (i := 7) rfl; have y8 := b1.cell' (i := 8) rfl) | (guard_target = wpList _ _ _ (Oper.mk _ (Op.store 28 (Operand.tmp 2) _) _ _ _ _ :: _) _ _; refine wpList_store_blk rfl 28 (.tmp 2) (.tmp 11) rfl (w.heap.size + 1) 0 (tabC ⟨none, 0, 0, none, 0, 0, none, 0, 0⟩ zeroT) rfl rfl r1 (by exact Nat.le_refl _) (tabSize _ _) (tabOne _ _) ?_; intro W9 h9 ht9; rw [whole_row (by rfl)] at h9))
    refine ret_tabIE Try.results22 rfl h9 rfl rfl rfl ⟨⟨_, _, [], _, by rw [HE2.out]; rfl, fun h' => by rw [HE2.out] at h'; cases h'⟩, ht9.below (bt hb0 hb1) (by omega)⟩
  | true =>
    obtain ⟨P, L, hF⟩ := okT_facts hok hT
    have hPT : T.pages.toNat = P := by rw [hF.pg]; rfl
    have hma := fun w' (hb : Below _ _ w') => may_any V T P 9 w' (hT.below hb) hF.pg hF.p0 hF.po hF.nl
    have HE : Hid (dropE T = if mayP T P 9 = true then 0 else 51) := by show _ = _; unfold dropE; rw [hok, hPT]; rfl
    rw [checkE_ok hok] at hc
    cases hmy : mayP T P 9 with
    | false =>
      have HE2 : Hid (dropE T = 51) := by show _ = _; rw [HE.out, if_neg (by rw [hmy]; simp)]
      rw [hmy] at hma
      clear hF hok hmy hPT
      unfold tabA at hb0 b0 r0 hc hma ⊢
      go_enter Try.func22, Try.ntmps22
      go_wp2_with (first | (go_at_call 19; refine hc.mono ?_; rintro e w1 ⟨rfl, hb1⟩; have b1 := b0.kept hb1; have r1 := r0.kept hb1; have y0 := b1.cell' (i := 0) rfl; have y1 := b1.cell' (i := 1) rfl; have y2 := b1.cell' (i := 2) rfl; have y3 := b1.cell' (i := 3) rfl; have y4 := b1.cell' (i := 4) rfl; have y5 := b1.cell' (i := 5) rfl; have y6 := b1.cell' (i := 6) rfl; have y7 := b1.cell' (i := 7) rfl; have y8 := b1.cell' (i := 8) rfl) | (go_at_call 31; refine (hma _ hb1).mono ?_; rintro e w2 ⟨rfl, hb2⟩; have b2 := b1.kept hb2; have r2 := r1.kept hb2; have z0 := b2.cell' (i := 0) rfl; have z1 := b2.cell' (i := 1) rfl; have z2 := b2.cell' (i := 2) rfl; have z3 := b2.cell' (i := 3) rfl; have z4 := b2.cell' (i := 4) rfl; have z5 := b2.cell' (i := 5) rfl; have z6 := b2.cell' (i := 6) rfl; have z7 := b2.cell' (i := 7) rfl; have z8 := b2.cell' (i := 8) rfl) | (guard_target = wpList _ _ _ (Oper.mk _ (Op.store 28 (Operand.tmp 2) _) _ _ _ _ :: _) _ _; refine wpList_store_blk rfl 28 (.tmp 2) (.tmp 16) rfl (w.heap.size + 1) 0 (tabC ⟨none, 0, 0, none, 0, 0, none, 0, 0⟩ zeroT) rfl rfl r2 (by exact Nat.le_refl _) (tabSize _ _) (tabOne _ _) ?_; intro W9 h9 ht9; rw [whole_row (by rfl)] at h9))
      refine ret_tabIE Try.results22 rfl h9 rfl rfl rfl ⟨⟨_, _, [], _, by rw [HE2.out]; rfl, fun h' => by rw [HE2.out] at h'; cases h'⟩, ht9.below (bt (bt hb0 hb1) hb2) (by omega)⟩
    | true =>
      have HE2 : Hid (dropE T = 0) := by show _ = _; rw [HE.out, if_pos hmy]
      have HMY : Hid (mayP T T.pages.toNat 9 = true) := by show _ = _; rw [hPT]; exact hmy
      have hpos := (may_drop hmy).2
      rw [hmy] at hma
      obtain ⟨m, hm⟩ : ∃ m, V.nl = m + 1 := ⟨V.nl - 1, by rw [hT.logs.len] at hpos; omega⟩
      have HN : Hid (V.nl = m + 1 ∧ V.nl ≤ 8) := ⟨hm, hF.nl⟩
      have hcp := fun w' (hb : Below _ _ w') => copied_any V T w' (hT.below hb) (by have := hF.nd; have := hF.l0; omega) (by have := hF.nh; have := Nat.mul_le_mul hF.l0.2 hF.p0.2; omega) (by have := hF.nl; omega) (fun i l hl => by have := hF.len i l hl; have := hF.p0; omega)
      obtain ⟨l0, hl0⟩ : ∃ l0, T.logs[0]? = some l0 := ⟨_, List.getElem?_eq_getElem hpos⟩
      obtain ⟨bl, ol, hpl, hbl, hat⟩ := h.logs.at' (by omega)
      obtain ⟨ql, ml, dl, hc0, -, -⟩ := hat 0 l0 hl0
      have HX : Hid ((T.logs.getD 0 ⟨0, []⟩).phys = l0.phys) := by show _ = _; rw [List.getD_eq_getElem?_getD, hl0]; rfl
      have HLL : Hid (T.logs.length = V.nl) := hT.logs.len
      have HC0 : Hid (∀ w', Below w.heap.size w w' → w'.cell? ⟨bl, ol, none⟩ = some (.int .i64 l0.phys)) := fun w' hb => (hb.cell (p := ⟨bl, ol, none⟩) hbl).trans (by simpa using hc0)
      have HPL : Hid (V.pl = some ⟨bl, ol, none⟩) := hpl
      obtain ⟨ph, hph⟩ : ∃ ph, ph = l0.phys := ⟨_, rfl⟩
      rw [← hph] at HX HC0
      unfold tabA at hb0 b0 r0 hc hma hcp ⊢
      clear hF hok hmy hpos hm hat hc0 hl0 hpl hPT hph l0 ql ml dl
      go_enter Try.func22, Try.ntmps22
      go_upto_region 7 with (first | (go_at_call 19; refine hc.mono ?_; rintro e w1 ⟨rfl, hb1⟩; have b1 := b0.kept hb1; have r1 := r0.kept hb1; have y0 := b1.cell' (i := 0) rfl; have y1 := b1.cell' (i := 1) rfl; have y2 := b1.cell' (i := 2) rfl; have y3 := b1.cell' (i := 3) rfl; have y4 := b1.cell' (i := 4) rfl; have y5 := b1.cell' (i := 5) rfl; have y6 := b1.cell' (i := 6) rfl; have y7 := b1.cell' (i := 7) rfl; have y8 := b1.cell' (i := 8) rfl) | (go_at_call 31; refine (hma _ hb1).mono ?_; rintro e w2 ⟨rfl, hb2⟩; have b2 := b1.kept hb2; have r2 := r1.kept hb2; have z0 := b2.cell' (i := 0) rfl; have z1 := b2.cell' (i := 1) rfl; have z2 := b2.cell' (i := 2) rfl; have z3 := b2.cell' (i := 3) rfl; have z4 := b2.cell' (i := 4) rfl; have z5 := b2.cell' (i := 5) rfl; have z6 := b2.cell' (i := 6) rfl; have z7 := b2.cell' (i := 7) rfl; have z8 := b2.cell' (i := 8) rfl) | (go_at_call 38; refine (hcp _ (bt hb1 hb2)).mono ?_; rintro e w3 ⟨V1, R1, rfl, -, -, hnl, hown, k3⟩; have hnl1 : Hid (V1.nl = V.nl) := hnl; clear hnl))
      have k4 := below_alloc w3 (.cells #[.int .i64 T.pages, .int .i64 T.logical, .int .i64 T.k, .slice V1.pd V1.nd V1.cd, .slice V1.ph V1.nh V1.ch, .int .i64 T.sp, .int .i64 T.sl, .int .i64 T.su, .slice V1.pl V1.nl V1.cl] 28)
      have h4 := Blk.new' w3 28 #[.int .i64 T.pages, .int .i64 T.logical, .int .i64 T.k, .slice V1.pd V1.nd V1.cd, .slice V1.ph V1.nh V1.ch, .int .i64 T.sp, .int .i64 T.sl, .int .i64 T.su, .slice V1.pl V1.nl V1.cl]
      generalize w3.alloc (.cells #[.int .i64 T.pages, .int .i64 T.logical, .int .i64 T.k, .slice V1.pd V1.nd V1.cd, .slice V1.ph V1.nh V1.ch, .int .i64 T.sp, .int .i64 T.sl, .int .i64 T.su, .slice V1.pl V1.nl V1.cl] 28) = W4 at *
      replace hown := hown.next k4
      have b4 := (b2.kept k3).kept k4
      have r4 := (r2.kept k3).kept k4
      have hbel2 := bt (bt hb0 hb1) hb2
      have hbel4 := bt (bt hbel2 k3) k4
      have hR1 : R1.length = m + 1 := by rw [← HN.out.1, ← HLL.out, hown.logs, List.length_map]
      have hnl : V1.nl = m + 1 := hnl1.out.trans HN.out.1
      obtain ⟨g, hpl1⟩ : ∃ g, V1.pl = some ⟨g, 0, none⟩ := by
          rcases hown.l.2 with ⟨_, h0⟩ | ⟨g, cap, cur, hv, _⟩
          · omega
          · simp only [Value.slice.injEq] at hv
            exact ⟨g, hv.1⟩
      have hol := hown.l
      rw [hnl, hpl1] at hol
      have hsz2 := hbel2.size
      have hg6 := k3.size
      have hg6l := h4.lt
      have hr2 := r2.lt
      have hBg := (hol.lt g rfl).1
      have hde := delete_any w2.heap.size g m V1.cl (flatR R1) W4 hol (by have := HN.out; omega) (flatR_one R1)
      rw [hnl, hpl1] at h4
      have HOLD : Hid (OwnT w2.heap.size W4 V1 T R1) := hown
      have HPL1 : Hid (V1.pl = some ⟨g, 0, none⟩) := hpl1
      have HNL : Hid (V1.nl = m + 1) := hnl
      have HR1 : Hid (R1.length = m + 1) := hR1
      have hgne : w3.heap.size ≠ g := blk_ne h4 hown.l (by decide) _ hpl1
      have HBL4 : Hid (Below w.heap.size w W4) := hbel4
      clear hol hown hpl1 hnl hR1 hcp hma hc hb0 hb1 hb2 hbel2 hbel4 k3 k4 b0 b1 b2 r0 r1 r2 hT y0 y1 y2 y3 y4 y5 y6 y7 y8 z0 z1 z2 z3 z4 z5 z6 z7 z8
      generalize w2.heap.size = B1 at *
      generalize w3.heap.size = g6 at *
      have y0 := h4.cell' (i := 0) rfl; have y1 := h4.cell' (i := 1) rfl; have y2 := h4.cell' (i := 2) rfl; have y3 := h4.cell' (i := 3) rfl; have y4 := h4.cell' (i := 4) rfl; have y5 := h4.cell' (i := 5) rfl; have y6 := h4.cell' (i := 6) rfl; have y7 := h4.cell' (i := 7) rfl; have y8 := h4.cell' (i := 8) rfl
      go_upto_region 8 with (first | (go_at_call 53; refine hde.mono ?_; rintro e w5 ⟨rfl, hrow5, ht5⟩; have h5 := h4.turned ht5 hgne) | (refine wpList_store_cell rfl 26 (.tmp 22) (.tmp 21) rfl g6 8 (.slice (some ⟨g, 0, none⟩) m V1.cl) rfl rfl h5 (by exact (by decide : 8 < 9)) (by kernel_rfl) rfl ?_; intro W6 h6 ht6))
      obtain ⟨r, R2, rfl⟩ : ∃ r R2, R1 = r :: R2 := by
          cases R1 with
          | nil => have := HR1.out; simp at this
          | cons a b => exact ⟨a, b, rfl⟩
      obtain ⟨VO, hVO⟩ : ∃ VO : TabV, VO = ⟨V1.pd, V1.nd, V1.cd, V1.ph, V1.nh, V1.ch, some ⟨g, 0, none⟩, m, V1.cl⟩ := ⟨_, rfl⟩
      obtain ⟨TO, hTO⟩ : ∃ TO, TO = dropT T := ⟨_, rfl⟩
      have hown5 : OwnT B1 w5 VO TO R2 := by rw [hVO, hTO]; exact HOLD.out.drop HPL1.out HNL.out hrow5 ht5
      have hown6 := hown5.turnedTab h5 ht6
      have b6 := (b4.turned ht5 (by omega)).turned ht6 (by omega)
      have r6 := (r4.turned ht5 (by omega)).turned ht6 (by omega)
      have hbel6 : Below w.heap.size w W6 := ht6.below (ht5.below HBL4.out (by omega)) (by omega)
      have h6' : Blk W6 g6 28 [.int .i64 TO.pages, .int .i64 TO.logical, .int .i64 TO.k, .slice VO.pd VO.nd VO.cd, .slice VO.ph VO.nh VO.ch, .int .i64 TO.sp, .int .i64 TO.sl, .int .i64 TO.su, .slice VO.pl VO.nl VO.cl] := by rw [hVO, hTO]; exact h6
      have c6 := HC0.out W6 hbel6
      have HTO : Hid (TO = dropT T) := hTO
      rw [HPL.out] at b6
      clear h6 h5 h4 b4 r4 ht5 ht6 hown5 hrow5 hde hVO hTO HOLD HBL4 y0 y1 y2 y3 y4 y5 y6 y7 y8
      have hnl2 : 0 < V.nl := by have := HN.out; omega
      have hn0 : (0 : Int) < (V.nl : Int) := by omega
      refine wp_region_noPanic ?_
      refine wp_region_held_drew (S := fun W' => Blk W' g6 28 [.int .i64 TO.pages, .int .i64 TO.logical, .int .i64 TO.k, .slice VO.pd VO.nd VO.cd, .slice VO.ph VO.nh VO.ch, .int .i64 TO.sp, .int .i64 TO.sl, .int .i64 TO.su, .slice VO.pl VO.nl VO.cl] ∧ Blk W' w.heap.size 28 [.int .i64 T.pages, .int .i64 T.logical, .int .i64 T.k, .slice V.pd V.nd V.cd, .slice V.ph V.nh V.ch, .int .i64 T.sp, .int .i64 T.sl, .int .i64 T.su, .slice (some ⟨bl, ol, none⟩) V.nl V.cl] ∧ W'.cell? ⟨bl, ol, none⟩ = some (.int .i64 ph) ∧ OwnT B1 W' VO TO R2 ∧ Below w.heap.size w W') (by kernel_rfl) ⟨h6'.drew, b6.drew, c6, hown6.next ((Below.refl _ _).drew), hbel6.drew⟩ (fun hHeld => ?_)
      replace r6 := r6.drew
      clear h6' b6 c6 hown6 hbel6
      generalize W6.drew = W0 at *
      refine wpAnyH_take (i := 0) (v := ?_) rfl (by kernel_rfl) (by kernel_rfl) (by kernel_rfl) (fun _ _ _ h => h) (Or.inl ⟨by rfl, ?_⟩) hHeld ?_
      rotate_left
      · intro w' hSw; try dsimp only at hSw
        have z0 := hSw.1.cell' (i := 0) rfl; have z1 := hSw.1.cell' (i := 1) rfl; have z2 := hSw.1.cell' (i := 2) rfl; have z3 := hSw.1.cell' (i := 3) rfl; have z4 := hSw.1.cell' (i := 4) rfl; have z5 := hSw.1.cell' (i := 5) rfl; have z6 := hSw.1.cell' (i := 6) rfl; have z7 := hSw.1.cell' (i := 7) rfl; have z8 := hSw.1.cell' (i := 8) rfl
        go_simp; try (with_reducible rfl)
      try simp only [Act.put, List.getElem_toArray, List.getElem_cons_succ, List.getElem_cons_zero, List.setIfInBounds_toArray, List.set_cons_zero, List.set_cons_succ]
      refine wpAnyH_take (i := 1) (v := ?_) rfl (by kernel_rfl) (by kernel_rfl) (by kernel_rfl) (fun _ _ _ h => h) (Or.inl ⟨by rfl, ?_⟩) hHeld ?_
      rotate_left
      · intro w' hSw; try dsimp only at hSw
        go_simp; try (with_reducible rfl)
      try simp only [Act.put, List.getElem_toArray, List.getElem_cons_succ, List.getElem_cons_zero, List.setIfInBounds_toArray, List.set_cons_zero, List.set_cons_succ]
      refine wpAnyH_take (i := 2) (v := ?_) rfl (by kernel_rfl) (by kernel_rfl) (by kernel_rfl) (fun _ _ _ h => h) (Or.inl ⟨by rfl, ?_⟩) hHeld ?_
      rotate_left
      · intro w' hSw; try dsimp only at hSw
        have z0 := hSw.2.1.cell' (i := 8) rfl
        go_simp; try (with_reducible rfl)
      try simp only [Act.put, List.getElem_toArray, List.getElem_cons_succ, List.getElem_cons_zero, List.setIfInBounds_toArray, List.set_cons_zero, List.set_cons_succ]
      refine wpAnyH_take (i := 3) (v := ?_) rfl (by kernel_rfl) (by kernel_rfl) (by kernel_rfl) (fun _ _ _ h => h) (Or.inl ⟨by rfl, ?_⟩) hHeld ?_
      rotate_left
      · intro w' hSw; try dsimp only at hSw
        go_simp; try (with_reducible rfl)
      try simp only [Act.put, List.getElem_toArray, List.getElem_cons_succ, List.getElem_cons_zero, List.setIfInBounds_toArray, List.set_cons_zero, List.set_cons_succ]
      refine wpAnyH_take (i := 4) (v := ?_) rfl (by kernel_rfl) (by kernel_rfl) (by kernel_rfl) (fun _ _ _ h => h) (Or.inl ⟨by rfl, ?_⟩) hHeld ?_
      rotate_left
      · intro w' hSw; try dsimp only at hSw
        go_simp; try (with_reducible rfl)
      try simp only [Act.put, List.getElem_toArray, List.getElem_cons_succ, List.getElem_cons_zero, List.setIfInBounds_toArray, List.set_cons_zero, List.set_cons_succ]
      refine wpAnyH_take (i := 5) (v := ?_) rfl (by kernel_rfl) (by kernel_rfl) (by kernel_rfl) (fun _ _ _ h => h) (Or.inl ⟨by rfl, ?_⟩) hHeld ?_
      rotate_left
      · intro w' hSw; try dsimp only at hSw
        have z0 := hSw.2.2.1
        go_simp; try (with_reducible rfl)
      try simp only [Act.put, List.getElem_toArray, List.getElem_cons_succ, List.getElem_cons_zero, List.setIfInBounds_toArray, List.set_cons_zero, List.set_cons_succ]
      refine wpAnyH_ready (rs := [6]) (by kernel_rfl) (by simp) ?_
      refine AllReadyH.cons rfl (fun K hK => ?_) AllReadyH.nil
      rw [if_pos (by rfl)]
      refine wp_store_blk 28 (.tmp 2) (.tmp 23) rfl (w.heap.size + 1) 0 (tabC VO TO) rfl rfl r6 (by exact Nat.le_refl _) (tabSize VO TO) (tabOne VO TO) ?_
      intro W9 h9 ht9
      rw [whole_row (by rfl)] at h9
      refine hK.out _ _ ⟨hHeld.1.turned ht9 (by omega), hHeld.2.1.turned ht9 (by omega), (ht9.cell (by show bl ≠ _; omega)).trans hHeld.2.2.1, hHeld.2.2.2.1.turnedAt ht9 (by omega), ht9.below hHeld.2.2.2.2 (by omega)⟩ (fun hHeld => ?_)
      clear hK K
      try simp only [Act.put, List.getElem_toArray, List.getElem_cons_succ, List.getElem_cons_zero, List.setIfInBounds_toArray, List.set_cons_zero, List.set_cons_succ]
      clear ht9
      refine wpAnyH_take (i := 7) (v := ?_) rfl (by kernel_rfl) (by kernel_rfl) (by kernel_rfl) (fun _ _ _ h => h) (Or.inl ⟨by rfl, ?_⟩) hHeld ?_
      rotate_left
      · intro w' hSw; try dsimp only at hSw
        go_simp; try (with_reducible rfl)
      try simp only [Act.put, List.getElem_toArray, List.getElem_cons_succ, List.getElem_cons_zero, List.setIfInBounds_toArray, List.set_cons_zero, List.set_cons_succ]
      refine wpAnyH_take (i := 8) (v := ?_) rfl (by kernel_rfl) (by kernel_rfl) (by kernel_rfl) (fun _ _ _ h => h) (Or.inl ⟨by rfl, ?_⟩) hHeld ?_
      rotate_left
      · intro w' hSw; try dsimp only at hSw
        go_simp; try (with_reducible rfl)
      try simp only [Act.put, List.getElem_toArray, List.getElem_cons_succ, List.getElem_cons_zero, List.setIfInBounds_toArray, List.set_cons_zero, List.set_cons_succ]
      refine wpAnyH_done (by kernel_rfl) ?_ _
      refine NoPanic.normal ?_
      go_wp2_with fail
      refine ret_tabIE Try.results22 rfl h9 rfl rfl rfl ⟨⟨VO, TO, R2, ph, by rw [HE2.out]; rfl, fun _ => ⟨HMY.out, HTO.out, HX.out.symm, hHeld.2.2.2.1.low (by omega)⟩⟩, hHeld.2.2.2.2⟩
end Go.Proofs.Ythibaefoioeghaa
