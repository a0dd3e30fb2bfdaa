/-
  The walk of NandPower.
-/
import Derived.Test.YthafcnilhloldaaNPowP
namespace Go.Proofs.Ythafcnilhloldaa
open Go.RowKit Go.Shelf
/-- The one event of the law. -/
def evP (a : Int) : Ev := ⟨a, 2, []⟩
def fN : Nat → Option Addr × Nat × Nat := fun _ => (none, 0, 0)
theorem srcP (w : World) (a : Int) : EvSrc (w.alloc (.cells #[.int .i64 a, .int .i64 2, .slice none 0 0] 72)) (some ⟨w.heap.size, 0, none⟩) 1 1 [evP a] fN := by
  have hE := Blk.new' w 72 #[.int .i64 a, .int .i64 2, .slice none 0 0]
  refine ⟨rfl, Nat.le_refl _, by unfold maxLen; omega, by omega, (fun h => by cases h), fun _ => ⟨w.heap.size, 0, rfl, hE.lt, fun j u hu => ?_⟩, fun i e he => ?_⟩
  · rw [Nat.zero_add]
    exact hE.cell' hu
  · cases i with
    | zero => cases he; exact In.empty _
    | succ i => simp at he
theorem okP (a : Int) (h : 0 < a) : okEvs 0 [evP a] = true := by simp [okEvs, evP, h]
set_option linter.unusedSimpArgs false in
set_option maxRecDepth 100000 in
set_option maxHeartbeats 8000000 in
theorem power_walk (gb gp : Int) (p1 : Option Addr) (n1 c1 : Nat) (os1 : List CallS) (p2 : Option Addr) (n2 c2 : Nat) (os2 : List CallS) (blk : Int) (w : World) (h1 : CallsSrc w p1 n1 c1 os1) (h2 : CallsSrc w p2 n2 c2 os2) :
    Calls Try.prog 8 #[.agg #[.int .i64 gb, .int .i64 gp], .slice p1 n1 c1, .slice p2 n2 c2, .int .i64 blk] w fun e w' => e = .returned (.bool true) ∧ Below w.heap.size w w' := by
  have hz := zeroPage
  obtain ⟨k1, hk1, hk1', hmin1⟩ := min_two n1 200 200 rfl
  obtain ⟨k2, hk2, hk2', hmin2⟩ := min_two n2 30 30 rfl
  have hsl1 := callsPre p1 n1 c1 k1 hk1 h1.cap
  have hsl2 := callsPre p2 n2 c2 k2 hk2 h2.cap
  have HL1 : Hid (os1.length = n1) := h1.len
  have HL2 : Hid (os2.length = n2) := h2.len
  have hb0 := below_alloc w (.cells #[.int .i64 gb, .int .i64 gp] 23)
  go_enter Try.func8, Try.ntmps8
  go_wp2_with fail
  have hsr := srcP (w.alloc (.cells #[.int .i64 gb, .int .i64 gp] 23)) (1 + (n1 : Int) % 50)
  rw [World.size_alloc] at hsr
  have hoka := okP (1 + (n1 : Int) % 50) (by omega)
  have hb1 := bt hb0 (below_alloc _ (.cells #[.int .i64 (1 + (n1 : Int) % 50), .int .i64 2, .slice none 0 0] 72))
  generalize 1 + (n1 : Int) % 50 = ea at *
  generalize (w.alloc (.cells #[.int .i64 gb, .int .i64 gp] 23)).alloc (.cells #[.int .i64 ea, .int .i64 2, .slice none 0 0] 72) = W1 at *
  by_cases hgeo : GeoOk gb gp
  · obtain ⟨nb, rfl⟩ : ∃ nb : Nat, gb = (nb : Int) := ⟨gb.toNat, by unfold GeoOk at hgeo; omega⟩
    obtain ⟨np, rfl⟩ : ∃ np : Nat, gp = (np : Int) := ⟨gp.toNat, by unfold GeoOk at hgeo; omega⟩
    refine (new_nil nb np _ 1 1 [evP ea] _ _ hsr hgeo hoka).mono ?_
    rintro e w2 ⟨hb2, c, bb, rfl, hcw, hbw, hC2⟩
    have hO2 : ChipOwn (fun _ => False) c bb (newSt nb np [evP ea]) w w2 := by
      refine ⟨_, hC2, ?_, bt hb1 hb2, fun j hj => hj.elim⟩
      rintro j (rfl | rfl | ⟨i, _, he⟩)
      · exact ⟨Nat.le_trans hb1.size hcw, fun h => h⟩
      · exact ⟨Nat.le_trans hb1.size hbw, fun h => h⟩
      · cases he
    have hops : (newSt nb np [evP ea]).ops ≤ 0 := Nat.le_refl _
    clear hC2 hb2 hcw hbw hsr hoka hgeo
    generalize newSt nb np [evP ea] = s0 at *
    go_wp2_with fail
    refine (begun_any _).mono ?_
    rintro e w3 ⟨rfl, hb3⟩
    have hO3 := hO2.kept hb3
    clear hO2 hb3 hb1 hb0
    go_wp2_with fail
    go_loopw [55] (fun i wr => ∃ (k : Nat) (s : St), k ≤ k1 ∧ i = .int .i64 k ∧ s.ops ≤ k ∧ ChipOwn (fun _ => False) c bb s w wr) (fun i _ => k1 - (intOf i).toNat)
    case atStart => exact ⟨0, s0, Nat.zero_le _, rfl, hops, hO3⟩
    case round =>
      clear hops hO3
      obtain ⟨k, s, hk, rfl, hop, hO⟩ := hrel
      by_cases hlt : k < k1
      · obtain ⟨x, hx⟩ : ∃ x, os1[k]? = some x := ⟨_, List.getElem?_eq_getElem (by rw [HL1.out]; omega)⟩
        obtain ⟨b, o, hp, hlb, hcl⟩ := (h1.below hO.below).at' (by omega)
        obtain ⟨a0, a1, a2, a3, a4⟩ := hcl k x hx
        have hfx := h1.fill x (List.mem_of_getElem? hx)
        subst hp
        have hO4 := hO.kept (below_alloc wr (.cells #[.int .i64 x.od, .int .i64 x.ob, .int .i64 x.op, .bool x.nx, .int .u8 (x.f : Int)] 39))
        obtain ⟨PV, hC, hnext⟩ := hO4.call
        have hd := does_any c s bb PV x _ hC (by omega) hfx
        unfold callV at hd
        clear hcl hx hO4 hC
        go_wp2_with fail
        refine hd.mono ?_
        rintro e w5 ⟨rfl, hA⟩
        obtain ⟨hO5, _⟩ := hnext w5 _ hA (doesSt_facts s x).1
        clear hA hd hnext
        go_wp2
        go_roundw
        case rel => exact ⟨k + 1, doesSt s x, by omega, by go_num, by have := (doesSt_facts s x).2.2; omega, hO5⟩
        case measure => simp [intOf]; omega
      · obtain ⟨PV, hC⟩ := hO.chip
        obtain ⟨ep, el, ec, hcc, _⟩ := hC.chip
        have hnb0 : 0 < s.nb := by have := hC.nbl; omega
        have hon := on_any c _ s.nb s.nb s.on wr hnb0 (hcc.cell' (i := 2) rfl) (hcc.cell' (i := 5) rfl)
        have hopc := ops_any c _ s.nb s.nb (s.ops : Int) wr hnb0 (hcc.cell' (i := 2) rfl) (hcc.cell' (i := 4) rfl)
        have hpa := pages_any c s bb PV blk wr hC
        obtain ⟨hPP, hPL⟩ := pagesOf_isP hC blk
        have hkk : ¬ k < k1 := hlt
        clear hcc
        cases hson : s.on with
        | true =>
          rw [hson] at hon
          go_wp2_with (go_at_call 25; refine hon.mono ?_; rintro e W0 ⟨rfl, hW0⟩; have hW1 := hW0.symm; subst hW1)
          go_ret
          exact ⟨rfl, hO.below⟩
        | false =>
          rw [hson] at hon
          obtain ⟨ps, hps⟩ := toPages hPP
          rw [← hps] at hpa
          have HPL : Hid (ps.length = (pagesOf s blk).length) := by show _ = _; rw [← hps, List.length_map]
          have hpl32 : ps.length ≤ 32 := by rw [HPL.out]; exact hPL
          go_wp2_with (first
            | (go_at_call 25; refine hon.mono ?_; rintro e W0 ⟨rfl, hW0⟩; have hW1 := hW0.symm; subst hW1)
            | (go_at_call 26; refine hopc.mono ?_; rintro e W0 ⟨rfl, hW0⟩; have hW1 := hW0.symm; subst hW1)
            | (go_at_call 23; refine hpa.mono ?_; rintro e w6 ⟨Bs, v6, rfl, hBs6, hcv6, hpv6, hov6, hb6⟩)
            | (go_at_call 22; refine (lpages_any Bs v6 ps _ hcv6 hpv6 hpl32).mono ?_; rintro e w7 ⟨vn7, vl7, rfl, hrn7, hrl7, hb7⟩; obtain ⟨pn7, cn7, rfl⟩ := owns_slice hrn7; obtain ⟨pl7, cl7, rfl⟩ := owns_slice hrl7))
          have hO7 : ChipOwn (fun j => False ∨ (Value.slice pl7 ps.length cl7).ownBlock = some j) c bb s w w7 := hO.more (bt hb6 hb7) (fun j hj => ⟨Nat.le_trans hb6.size (hrl7.lt j hj).1, (hrl7.lt j hj).2⟩)
          have hP7 : PagesIn w7 (.slice pl7 ps.length cl7) (ps.map (·.1)) := ⟨by rw [List.length_map]; exact owns_zero hrl7, fun p hp => by rw [hps] at hp; exact hPP p hp⟩
          clear hrn7 hrl7 hb7 hb6 hcv6 hpv6 hov6 hBs6 hO hon hopc hpa hC
          go_loopw [80] (fun i wr => ∃ k' : Nat, k' ≤ k2 ∧ i = .int .i64 k' ∧ ChipOwn (fun j => False ∨ (Value.slice pl7 ps.length cl7).ownBlock = some j) c bb s w wr ∧ PagesIn wr (.slice pl7 ps.length cl7) (ps.map (·.1))) (fun i _ => k2 - (intOf i).toNat)
          case atStart => exact ⟨0, Nat.zero_le _, rfl, hO7, hP7⟩
          case round =>
            clear hO7 hP7
            obtain ⟨k', hk', rfl, hO8, hP8⟩ := hrel
            by_cases hlt2 : k' < k2
            · obtain ⟨x, hx⟩ : ∃ x, os2[k']? = some x := ⟨_, List.getElem?_eq_getElem (by rw [HL2.out]; omega)⟩
              obtain ⟨b, o, hp, hlb, hcl⟩ := (h2.below hO8.below).at' (by omega)
              obtain ⟨a0, a1, a2, a3, a4⟩ := hcl k' x hx
              have hfx := h2.fill x (List.mem_of_getElem? hx)
              subst hp
              obtain ⟨PV8, hC8, hn8⟩ := hO8.call
              clear hcl hx
              obtain ⟨od, ob, op, nx, f⟩ := x
              dsimp only at a0 a1 a2 a3 a4 hfx
              by_cases q0 : 0 ≤ od
              · by_cases q2 : od ≤ 2
                · have hx2 := does_any c s bb PV8 ⟨od, ob, op, nx, f⟩ _ (hC8.below (below_alloc wr (.cells #[.int .i64 od, .int .i64 ob, .int .i64 op, .bool nx, .int .u8 (f : Int)] 39))) (by omega) hfx
                  unfold callV at hx2
                  dsimp only at hx2
                  obtain ⟨hst, hee⟩ := does_off s ⟨od, ob, op, nx, f⟩ hson
                  have HDL : Hid ((doesX s ⟨od, ob, op, nx, f⟩).length = 288) := (doesX_isP hC8 ⟨od, ob, op, nx, f⟩).1
                  dsimp only at hst hee
                  rw [if_neg (by omega)] at hst
                  rw [hee q0 q2] at hx2
                  have m3 : (od == 3) = false := by simp; omega
                  rw [hst] at hx2
                  clear hst hee
                  generalize doesX s ⟨od, ob, op, nx, f⟩ = dX at *
                  go_wp2_with (first
                    | (go_at_call 18; refine hx2.mono ?_; rintro e w9 ⟨rfl, hA9⟩; have hcb := (Blk.new' wr 39 #[.int .i64 od, .int .i64 ob, .int .i64 op, .bool nx, .int .u8 (f : Int)]).after hA9 (fun e => by have := hC8.lt e; omega); have c0 := (hcb.alloc (.cells (vals (fillP 0)).toArray 46)).cell' (i := 0) rfl)
                    | (refine wpList_store_blk rfl 46 (.tmp 18) _ rfl _ _ (vals dX) rfl rfl (Blk.new w9 46 (vals (fillP 0))) (by rw [vals_length, vals_length, HDL.out, fillP_length]; exact Nat.le_refl _) (sizeP HDL.out) (vals_one _) ?_; intro w10 h10 ht10; have hb10 := ht10.below (below_alloc w9 _) (Nat.le_refl _); have c1 := (hcb.kept hb10).cell' (i := 0) rfl))
                  obtain ⟨hO9, hT9⟩ := hn8 w9 _ (After.of (below_alloc _ _) hA9) rfl
                  have hO10 := hO9.kept hb10
                  have hP10 := (hP8.same (fun g hg => hT9 g (.inr hg))).below hb10
                  clear hA9 hO9 hT9 hcb hx2 h10 ht10 hn8 c1
                  go_roundw
                  case rel => exact ⟨k' + 1, by omega, by go_num, hO10, hP10⟩
                  case measure => simp [intOf]; omega
                · by_cases q3 : od = 3
                  · subst q3
                    have hx2 := does_any c s bb PV8 ⟨3, ob, op, nx, f⟩ _ (hC8.below (below_alloc wr (.cells #[.int .i64 3, .int .i64 ob, .int .i64 op, .bool nx, .int .u8 (f : Int)] 39))) (by omega) hfx
                    unfold callV at hx2
                    dsimp only at hx2
                    obtain ⟨hst, hee⟩ := does_off s ⟨3, ob, op, nx, f⟩ hson
                    have HDL : Hid ((doesX s ⟨3, ob, op, nx, f⟩).length = 288) := (doesX_isP hC8 ⟨3, ob, op, nx, f⟩).1
                    dsimp only at hst hee
                    rw [if_pos rfl] at hst
                    generalize doesE s ⟨3, ob, op, nx, f⟩ = dE at *
                    rw [hst] at hx2
                    clear hst hee
                    generalize doesX s ⟨3, ob, op, nx, f⟩ = dX at *
                    go_wp2_with (first
                      | (go_at_call 18; refine hx2.mono ?_; rintro e w9 ⟨rfl, hA9⟩; have hcb := (Blk.new' wr 39 #[.int .i64 3, .int .i64 ob, .int .i64 op, .bool nx, .int .u8 (f : Int)]).after hA9 (fun e => by have := hC8.lt e; omega); have c0 := (hcb.alloc (.cells (vals (fillP 0)).toArray 46)).cell' (i := 0) rfl)
                      | (refine wpList_store_blk rfl 46 (.tmp 18) _ rfl _ _ (vals dX) rfl rfl (Blk.new w9 46 (vals (fillP 0))) (by rw [vals_length, vals_length, HDL.out, fillP_length]; exact Nat.le_refl _) (sizeP HDL.out) (vals_one _) ?_; intro w10 h10 ht10; have hb10 := ht10.below (below_alloc w9 _) (Nat.le_refl _); have c1 := (hcb.kept hb10).cell' (i := 0) rfl))
                    obtain ⟨hO9, hT9⟩ := hn8 w9 _ (After.of (below_alloc _ _) hA9) rfl
                    have hO10 := hO9.kept hb10
                    have hP10 := (hP8.same (fun g hg => hT9 g (.inr hg))).below hb10
                    clear hA9 hO9 hT9 hcb hx2 h10 ht10 hn8 c1
                    obtain ⟨PVt, hCt, hnt⟩ := hO10.call
                    obtain ⟨ept, elt, ect, hct, _⟩ := hCt.chip
                    have hopt := ops_any c _ s.nb s.nb (s.ops : Int) w10 hnb0 (hct.cell' (i := 2) rfl) (hct.cell' (i := 4) rfl)
                    have hrst := restart_any c _ s.nb s.nb true w10 hnb0 (hct.cell' (i := 2) rfl) (hct.cell' (i := 5) rfl) (hct.frozen 5)
                    obtain ⟨hOr, hTr⟩ := hnt _ _ (After.restart hCt) rfl
                    have hCr := hCt.restart
                    obtain ⟨epr, elr, ecr, hcr, _⟩ := hCr.chip
                    have honr := on_any c _ s.nb s.nb true _ hnb0 (hcr.cell' (i := 2) rfl) (hcr.cell' (i := 5) rfl)
                    have hpar := pages_any c _ bb PVt blk _ hCr
                    have hpe : pagesOf { { s with on := true } with on := true } blk = ps.map (·.1) := hps.symm
                    rw [hpe] at hpar
                    have hPr := hP10.same (fun g hg => hTr g (.inr hg))
                    have hBr := hOr.below
                    clear hct hcr hnt hTr hpe hCr
                    generalize w10.setCell ⟨c, 5, none⟩ (.bool true) = Wr at *
                    go_wp2_with (first
                      | (go_at_call 26; refine hopt.mono ?_; rintro e W0 ⟨rfl, hW0⟩; have hW1 := hW0.symm; subst hW1)
                      | (go_at_call 27; refine hrst.mono ?_; rintro e W0 ⟨rfl, hW0⟩; have hW1 := hW0.symm; subst hW1)
                      | (go_at_call 25; refine honr.mono ?_; rintro e W0 ⟨rfl, hW0⟩; have hW1 := hW0.symm; subst hW1)
                      | (go_at_call 23; refine hpar.mono ?_; rintro e wp ⟨Bp, vp, rfl, hBp, hcvp, hpvp, hovp, hbp⟩)
                      | (go_at_call 22; refine (lpages_any Bp vp ps _ hcvp hpvp hpl32).mono ?_; rintro e wq ⟨vnq, vlq, rfl, hrnq, hrlq, hbq⟩; obtain ⟨pnq, cnq, rfl⟩ := owns_slice hrnq; obtain ⟨plq, clq, rfl⟩ := owns_slice hrlq))
                    have hPq := hPr.below (bt hbp hbq)
                    have hQq : PagesIn wq (.slice plq ps.length clq) (ps.map (·.1)) := ⟨by rw [List.length_map]; exact owns_zero hrlq, fun p hp => by rw [hps] at hp; exact hPP p hp⟩
                    have hBq := bt (bt hBr hbp) hbq
                    clear hopt hrst honr hpar hPr hbp hbq hrnq hrlq hcvp hpvp hovp
                    go_loopw [134] (fun i wr => ∃ j : Nat, j ≤ ps.length ∧ i = .int .i64 j ∧ PagesIn wr (.slice pl7 ps.length cl7) (ps.map (·.1)) ∧ PagesIn wr (.slice plq ps.length clq) (ps.map (·.1)) ∧ Below w.heap.size w wr) (fun i _ => ps.length - (intOf i).toNat)
                    case atStart => exact ⟨0, Nat.zero_le _, rfl, hPq, hQq, hBq⟩
                    case round =>
                      obtain ⟨j, hj, rfl, hA1, hA2, hA3⟩ := hrel
                      by_cases hlj : j < ps.length
                      · have hne : ps.map (·.1) ≠ [] := fun h => by have := congrArg List.length h; rw [List.length_map, List.length_nil] at this; omega
                        obtain ⟨y, hy⟩ : ∃ y, (ps.map (·.1))[j]? = some y := ⟨_, List.getElem?_eq_getElem (by rw [List.length_map]; exact hlj)⟩
                        have hyP := hA1.each y (List.mem_of_getElem? hy)
                        obtain ⟨g1, cp1, cu1, hv1, _⟩ := hA1.at' hne
                        obtain ⟨g2, cp2, cu2, hv2, _⟩ := hA2.at' hne
                        simp only [Value.slice.injEq] at hv1 hv2
                        obtain ⟨hg1, -, -⟩ := hv1
                        obtain ⟨hg2, -, -⟩ := hv2
                        subst hg1
                        subst hg2
                        clear hne
                        have hR1 : ∀ W', PagesIn W' (.slice (some ⟨g1, 0, none⟩) ps.length cl7) (ps.map (·.1)) → W'.rangeAt g1 (j * 288) (vals y) := fun W' h => by have h' := h; rw [show ps.length = (ps.map (·.1)).length from by rw [List.length_map]] at h'; exact h'.range j y hy
                        have hR2 : ∀ W', PagesIn W' (.slice (some ⟨g2, 0, none⟩) ps.length clq) (ps.map (·.1)) → W'.rangeAt g2 (j * 288) (vals y) := fun W' h => by have h' := h; rw [show ps.length = (ps.map (·.1)).length from by rw [List.length_map]] at h'; exact h'.range j y hy
                        have hqq := fun W => run_equalIn_page W y y hyP.1 hyP.1
                        rw [show (y == y) = true from by simp] at hqq
                        have HY : Hid (y.length = 288) := hyP.1
                        clear hy hyP
                        go_wp2_with fail
                        refine wp_region_noPanic ?_
                        refine wp_region_held_drew (S := fun w' => PagesIn w' (.slice (some ⟨g1, 0, none⟩) ps.length cl7) (ps.map (·.1)) ∧ PagesIn w' (.slice (some ⟨g2, 0, none⟩) ps.length clq) (ps.map (·.1))) (by kernel_rfl) ⟨hA1.below ((Below.refl _ _).drew), hA2.below ((Below.refl _ _).drew)⟩ (fun hHeld => ?_)
                        refine wpAnyH_take (i := 0) (v := ?_) rfl (by kernel_rfl) (by kernel_rfl) (by kernel_rfl) (fun _ _ _ h => h) (Or.inl ⟨by rfl, ?_⟩) hHeld ?_
                        rotate_left
                        · intro w hSw; try dsimp only at hSw
                          go_simp; try (with_reducible rfl)
                        try simp only [Act.put, List.getElem_toArray, List.getElem_cons_succ, List.getElem_cons_zero, List.setIfInBounds_toArray, List.set_cons_zero, List.set_cons_succ]
                        refine wpAnyH_take (i := 1) (v := ?_) rfl (by kernel_rfl) (by kernel_rfl) (by kernel_rfl) (fun _ _ _ h => h) (Or.inl ⟨by rfl, ?_⟩) hHeld ?_
                        rotate_left
                        · intro w hSw; try dsimp only at hSw
                          go_simp; try (with_reducible rfl)
                        try simp only [Act.put, List.getElem_toArray, List.getElem_cons_succ, List.getElem_cons_zero, List.setIfInBounds_toArray, List.set_cons_zero, List.set_cons_succ]
                        refine wpAnyH_take (i := 2) (v := ?_) rfl (by kernel_rfl) (by kernel_rfl) (by kernel_rfl) (fun _ _ _ h => h) (Or.inl ⟨by rfl, ?_⟩) hHeld ?_
                        rotate_left
                        · intro w hSw; try dsimp only at hSw
                          go_simp; try (with_reducible rfl)
                        try simp only [Act.put, List.getElem_toArray, List.getElem_cons_succ, List.getElem_cons_zero, List.setIfInBounds_toArray, List.set_cons_zero, List.set_cons_succ]
                        refine wpAnyH_take (i := 3) (v := .agg (vals y).toArray) rfl (by kernel_rfl) (by kernel_rfl) (by kernel_rfl) (fun _ _ _ h => h) (yieldsIf_load_mid (by rfl) _ _ rfl (g1) (j * 288) rfl (vals y) _ (fun w hSw => hR1 _ hSw.1) Try.underlying46 rfl (sizeP HY.out)) hHeld ?_
                        try simp only [Act.put, List.getElem_toArray, List.getElem_cons_succ, List.getElem_cons_zero, List.setIfInBounds_toArray, List.set_cons_zero, List.set_cons_succ]
                        refine wpAnyH_take (i := 4) (v := ?_) rfl (by kernel_rfl) (by kernel_rfl) (by kernel_rfl) (fun _ _ _ h => h) (Or.inl ⟨by rfl, ?_⟩) hHeld ?_
                        rotate_left
                        · intro w hSw; try dsimp only at hSw
                          go_simp; try (with_reducible rfl)
                        try simp only [Act.put, List.getElem_toArray, List.getElem_cons_succ, List.getElem_cons_zero, List.setIfInBounds_toArray, List.set_cons_zero, List.set_cons_succ]
                        refine wpAnyH_take (i := 5) (v := ?_) rfl (by kernel_rfl) (by kernel_rfl) (by kernel_rfl) (fun _ _ _ h => h) (Or.inl ⟨by rfl, ?_⟩) hHeld ?_
                        rotate_left
                        · intro w hSw; try dsimp only at hSw
                          go_simp; try (with_reducible rfl)
                        try simp only [Act.put, List.getElem_toArray, List.getElem_cons_succ, List.getElem_cons_zero, List.setIfInBounds_toArray, List.set_cons_zero, List.set_cons_succ]
                        refine wpAnyH_take (i := 6) (v := ?_) rfl (by kernel_rfl) (by kernel_rfl) (by kernel_rfl) (fun _ _ _ h => h) (Or.inl ⟨by rfl, ?_⟩) hHeld ?_
                        rotate_left
                        · intro w hSw; try dsimp only at hSw
                          go_simp; try (with_reducible rfl)
                        try simp only [Act.put, List.getElem_toArray, List.getElem_cons_succ, List.getElem_cons_zero, List.setIfInBounds_toArray, List.set_cons_zero, List.set_cons_succ]
                        refine wpAnyH_take (i := 7) (v := .agg (vals y).toArray) rfl (by kernel_rfl) (by kernel_rfl) (by kernel_rfl) (fun _ _ _ h => h) (yieldsIf_load_mid (by rfl) _ _ rfl (g2) (j * 288) rfl (vals y) _ (fun w hSw => hR2 _ hSw.2) Try.underlying46 rfl (sizeP HY.out)) hHeld ?_
                        try simp only [Act.put, List.getElem_toArray, List.getElem_cons_succ, List.getElem_cons_zero, List.setIfInBounds_toArray, List.set_cons_zero, List.set_cons_succ]
                        refine wpAnyH_take (i := 8) (v := ?_) rfl (by kernel_rfl) (by kernel_rfl) (by kernel_rfl) (fun _ _ _ h => h) (Or.inl ⟨by rfl, ?_⟩) hHeld ?_
                        rotate_left
                        · intro w hSw; try dsimp only at hSw
                          go_simp; try (with_reducible rfl)
                        try simp only [Act.put, List.getElem_toArray, List.getElem_cons_succ, List.getElem_cons_zero, List.setIfInBounds_toArray, List.set_cons_zero, List.set_cons_succ]
                        refine wpAnyH_done (by kernel_rfl) ?_ _
                        refine NoPanic.normal ?_
                        go_wp2
                        go_roundw
                        case rel => exact ⟨j + 1, by omega, by go_num, hA1.below ((Below.refl _ _).drew), hA2.below ((Below.refl _ _).drew), hA3.drew⟩
                        case measure => simp [intOf]; omega
                      · have hjj : ¬ j < ps.length := hlj
                        go_wp2
                        go_ret
                        exact ⟨rfl, hA3⟩
                  · have hx2 := does_any c s bb PV8 ⟨od, ob, op, nx, f⟩ _ (hC8.below (below_alloc wr (.cells #[.int .i64 od, .int .i64 ob, .int .i64 op, .bool nx, .int .u8 (f : Int)] 39))) (by omega) hfx
                    unfold callV at hx2
                    dsimp only at hx2
                    obtain ⟨hst, hee⟩ := does_off s ⟨od, ob, op, nx, f⟩ hson
                    have HDL : Hid ((doesX s ⟨od, ob, op, nx, f⟩).length = 288) := (doesX_isP hC8 ⟨od, ob, op, nx, f⟩).1
                    dsimp only at hst hee
                    rw [if_neg (by omega)] at hst
                    have m3 : (od == 3) = false := by simp; omega
                    generalize doesE s ⟨od, ob, op, nx, f⟩ = dE at *
                    rw [hst] at hx2
                    clear hst hee
                    generalize doesX s ⟨od, ob, op, nx, f⟩ = dX at *
                    go_wp2_with (first
                      | (go_at_call 18; refine hx2.mono ?_; rintro e w9 ⟨rfl, hA9⟩; have hcb := (Blk.new' wr 39 #[.int .i64 od, .int .i64 ob, .int .i64 op, .bool nx, .int .u8 (f : Int)]).after hA9 (fun e => by have := hC8.lt e; omega); have c0 := (hcb.alloc (.cells (vals (fillP 0)).toArray 46)).cell' (i := 0) rfl)
                      | (refine wpList_store_blk rfl 46 (.tmp 18) _ rfl _ _ (vals dX) rfl rfl (Blk.new w9 46 (vals (fillP 0))) (by rw [vals_length, vals_length, HDL.out, fillP_length]; exact Nat.le_refl _) (sizeP HDL.out) (vals_one _) ?_; intro w10 h10 ht10; have hb10 := ht10.below (below_alloc w9 _) (Nat.le_refl _); have c1 := (hcb.kept hb10).cell' (i := 0) rfl))
                    obtain ⟨hO9, hT9⟩ := hn8 w9 _ (After.of (below_alloc _ _) hA9) rfl
                    have hO10 := hO9.kept hb10
                    have hP10 := (hP8.same (fun g hg => hT9 g (.inr hg))).below hb10
                    clear hA9 hO9 hT9 hcb hx2 h10 ht10 hn8 c1
                    go_roundw
                    case rel => exact ⟨k' + 1, by omega, by go_num, hO10, hP10⟩
                    case measure => simp [intOf]; omega
              · have hx2 := does_any c s bb PV8 ⟨od, ob, op, nx, f⟩ _ (hC8.below (below_alloc wr (.cells #[.int .i64 od, .int .i64 ob, .int .i64 op, .bool nx, .int .u8 (f : Int)] 39))) (by omega) hfx
                unfold callV at hx2
                dsimp only at hx2
                obtain ⟨hst, hee⟩ := does_off s ⟨od, ob, op, nx, f⟩ hson
                have HDL : Hid ((doesX s ⟨od, ob, op, nx, f⟩).length = 288) := (doesX_isP hC8 ⟨od, ob, op, nx, f⟩).1
                dsimp only at hst hee
                rw [if_neg (by omega)] at hst
                have m3 : (od == 3) = false := by simp; omega
                generalize doesE s ⟨od, ob, op, nx, f⟩ = dE at *
                rw [hst] at hx2
                clear hst hee
                generalize doesX s ⟨od, ob, op, nx, f⟩ = dX at *
                go_wp2_with (first
                  | (go_at_call 18; refine hx2.mono ?_; rintro e w9 ⟨rfl, hA9⟩; have hcb := (Blk.new' wr 39 #[.int .i64 od, .int .i64 ob, .int .i64 op, .bool nx, .int .u8 (f : Int)]).after hA9 (fun e => by have := hC8.lt e; omega); have c0 := (hcb.alloc (.cells (vals (fillP 0)).toArray 46)).cell' (i := 0) rfl)
                  | (refine wpList_store_blk rfl 46 (.tmp 18) _ rfl _ _ (vals dX) rfl rfl (Blk.new w9 46 (vals (fillP 0))) (by rw [vals_length, vals_length, HDL.out, fillP_length]; exact Nat.le_refl _) (sizeP HDL.out) (vals_one _) ?_; intro w10 h10 ht10; have hb10 := ht10.below (below_alloc w9 _) (Nat.le_refl _); have c1 := (hcb.kept hb10).cell' (i := 0) rfl))
                obtain ⟨hO9, hT9⟩ := hn8 w9 _ (After.of (below_alloc _ _) hA9) rfl
                have hO10 := hO9.kept hb10
                have hP10 := (hP8.same (fun g hg => hT9 g (.inr hg))).below hb10
                clear hA9 hO9 hT9 hcb hx2 h10 ht10 hn8 c1
                go_roundw
                case rel => exact ⟨k' + 1, by omega, by go_num, hO10, hP10⟩
                case measure => simp [intOf]; omega
            · have hkk2 : ¬ k' < k2 := hlt2
              obtain ⟨PVt, hCt, hnt⟩ := hO8.call
              obtain ⟨ept, elt, ect, hct, _⟩ := hCt.chip
              have hopt := ops_any c _ s.nb s.nb (s.ops : Int) wr hnb0 (hct.cell' (i := 2) rfl) (hct.cell' (i := 4) rfl)
              have hrst := restart_any c _ s.nb s.nb s.on wr hnb0 (hct.cell' (i := 2) rfl) (hct.cell' (i := 5) rfl) (hct.frozen 5)
              obtain ⟨hOr, hTr⟩ := hnt _ _ (After.restart hCt) rfl
              have hCr := hCt.restart
              obtain ⟨epr, elr, ecr, hcr, _⟩ := hCr.chip
              have honr := on_any c _ s.nb s.nb true _ hnb0 (hcr.cell' (i := 2) rfl) (hcr.cell' (i := 5) rfl)
              have hpar := pages_any c _ bb PVt blk _ hCr
              have hpe : pagesOf { s with on := true } blk = ps.map (·.1) := hps.symm
              rw [hpe] at hpar
              have hPr := hP8.same (fun g hg => hTr g (.inr hg))
              have hBr := hOr.below
              clear hct hcr hnt hTr hpe hCr
              generalize wr.setCell ⟨c, 5, none⟩ (.bool true) = Wr at *
              go_wp2_with (first
                | (go_at_call 26; refine hopt.mono ?_; rintro e W0 ⟨rfl, hW0⟩; have hW1 := hW0.symm; subst hW1)
                | (go_at_call 27; refine hrst.mono ?_; rintro e W0 ⟨rfl, hW0⟩; have hW1 := hW0.symm; subst hW1)
                | (go_at_call 25; refine honr.mono ?_; rintro e W0 ⟨rfl, hW0⟩; have hW1 := hW0.symm; subst hW1)
                | (go_at_call 23; refine hpar.mono ?_; rintro e wp ⟨Bp, vp, rfl, hBp, hcvp, hpvp, hovp, hbp⟩)
                | (go_at_call 22; refine (lpages_any Bp vp ps _ hcvp hpvp hpl32).mono ?_; rintro e wq ⟨vnq, vlq, rfl, hrnq, hrlq, hbq⟩; obtain ⟨pnq, cnq, rfl⟩ := owns_slice hrnq; obtain ⟨plq, clq, rfl⟩ := owns_slice hrlq))
              have hPq := hPr.below (bt hbp hbq)
              have hQq : PagesIn wq (.slice plq ps.length clq) (ps.map (·.1)) := ⟨by rw [List.length_map]; exact owns_zero hrlq, fun p hp => by rw [hps] at hp; exact hPP p hp⟩
              have hBq := bt (bt hBr hbp) hbq
              clear hopt hrst honr hpar hPr hbp hbq hrnq hrlq hcvp hpvp hovp
              go_loopw [134] (fun i wr => ∃ j : Nat, j ≤ ps.length ∧ i = .int .i64 j ∧ PagesIn wr (.slice pl7 ps.length cl7) (ps.map (·.1)) ∧ PagesIn wr (.slice plq ps.length clq) (ps.map (·.1)) ∧ Below w.heap.size w wr) (fun i _ => ps.length - (intOf i).toNat)
              case atStart => exact ⟨0, Nat.zero_le _, rfl, hPq, hQq, hBq⟩
              case round =>
                obtain ⟨j, hj, rfl, hA1, hA2, hA3⟩ := hrel
                by_cases hlj : j < ps.length
                · have hne : ps.map (·.1) ≠ [] := fun h => by have := congrArg List.length h; rw [List.length_map, List.length_nil] at this; omega
                  obtain ⟨y, hy⟩ : ∃ y, (ps.map (·.1))[j]? = some y := ⟨_, List.getElem?_eq_getElem (by rw [List.length_map]; exact hlj)⟩
                  have hyP := hA1.each y (List.mem_of_getElem? hy)
                  obtain ⟨g1, cp1, cu1, hv1, _⟩ := hA1.at' hne
                  obtain ⟨g2, cp2, cu2, hv2, _⟩ := hA2.at' hne
                  simp only [Value.slice.injEq] at hv1 hv2
                  obtain ⟨hg1, -, -⟩ := hv1
                  obtain ⟨hg2, -, -⟩ := hv2
                  subst hg1
                  subst hg2
                  clear hne
                  have hR1 : ∀ W', PagesIn W' (.slice (some ⟨g1, 0, none⟩) ps.length cl7) (ps.map (·.1)) → W'.rangeAt g1 (j * 288) (vals y) := fun W' h => by have h' := h; rw [show ps.length = (ps.map (·.1)).length from by rw [List.length_map]] at h'; exact h'.range j y hy
                  have hR2 : ∀ W', PagesIn W' (.slice (some ⟨g2, 0, none⟩) ps.length clq) (ps.map (·.1)) → W'.rangeAt g2 (j * 288) (vals y) := fun W' h => by have h' := h; rw [show ps.length = (ps.map (·.1)).length from by rw [List.length_map]] at h'; exact h'.range j y hy
                  have hqq := fun W => run_equalIn_page W y y hyP.1 hyP.1
                  rw [show (y == y) = true from by simp] at hqq
                  have HY : Hid (y.length = 288) := hyP.1
                  clear hy hyP
                  go_wp2_with fail
                  refine wp_region_noPanic ?_
                  refine wp_region_held_drew (S := fun w' => PagesIn w' (.slice (some ⟨g1, 0, none⟩) ps.length cl7) (ps.map (·.1)) ∧ PagesIn w' (.slice (some ⟨g2, 0, none⟩) ps.length clq) (ps.map (·.1))) (by kernel_rfl) ⟨hA1.below ((Below.refl _ _).drew), hA2.below ((Below.refl _ _).drew)⟩ (fun hHeld => ?_)
                  refine wpAnyH_take (i := 0) (v := ?_) rfl (by kernel_rfl) (by kernel_rfl) (by kernel_rfl) (fun _ _ _ h => h) (Or.inl ⟨by rfl, ?_⟩) hHeld ?_
                  rotate_left
                  · intro w hSw; try dsimp only at hSw
                    go_simp; try (with_reducible rfl)
                  try simp only [Act.put, List.getElem_toArray, List.getElem_cons_succ, List.getElem_cons_zero, List.setIfInBounds_toArray, List.set_cons_zero, List.set_cons_succ]
                  refine wpAnyH_take (i := 1) (v := ?_) rfl (by kernel_rfl) (by kernel_rfl) (by kernel_rfl) (fun _ _ _ h => h) (Or.inl ⟨by rfl, ?_⟩) hHeld ?_
                  rotate_left
                  · intro w hSw; try dsimp only at hSw
                    go_simp; try (with_reducible rfl)
                  try simp only [Act.put, List.getElem_toArray, List.getElem_cons_succ, List.getElem_cons_zero, List.setIfInBounds_toArray, List.set_cons_zero, List.set_cons_succ]
                  refine wpAnyH_take (i := 2) (v := ?_) rfl (by kernel_rfl) (by kernel_rfl) (by kernel_rfl) (fun _ _ _ h => h) (Or.inl ⟨by rfl, ?_⟩) hHeld ?_
                  rotate_left
                  · intro w hSw; try dsimp only at hSw
                    go_simp; try (with_reducible rfl)
                  try simp only [Act.put, List.getElem_toArray, List.getElem_cons_succ, List.getElem_cons_zero, List.setIfInBounds_toArray, List.set_cons_zero, List.set_cons_succ]
                  refine wpAnyH_take (i := 3) (v := .agg (vals y).toArray) rfl (by kernel_rfl) (by kernel_rfl) (by kernel_rfl) (fun _ _ _ h => h) (yieldsIf_load_mid (by rfl) _ _ rfl (g1) (j * 288) rfl (vals y) _ (fun w hSw => hR1 _ hSw.1) Try.underlying46 rfl (sizeP HY.out)) hHeld ?_
                  try simp only [Act.put, List.getElem_toArray, List.getElem_cons_succ, List.getElem_cons_zero, List.setIfInBounds_toArray, List.set_cons_zero, List.set_cons_succ]
                  refine wpAnyH_take (i := 4) (v := ?_) rfl (by kernel_rfl) (by kernel_rfl) (by kernel_rfl) (fun _ _ _ h => h) (Or.inl ⟨by rfl, ?_⟩) hHeld ?_
                  rotate_left
                  · intro w hSw; try dsimp only at hSw
                    go_simp; try (with_reducible rfl)
                  try simp only [Act.put, List.getElem_toArray, List.getElem_cons_succ, List.getElem_cons_zero, List.setIfInBounds_toArray, List.set_cons_zero, List.set_cons_succ]
                  refine wpAnyH_take (i := 5) (v := ?_) rfl (by kernel_rfl) (by kernel_rfl) (by kernel_rfl) (fun _ _ _ h => h) (Or.inl ⟨by rfl, ?_⟩) hHeld ?_
                  rotate_left
                  · intro w hSw; try dsimp only at hSw
                    go_simp; try (with_reducible rfl)
                  try simp only [Act.put, List.getElem_toArray, List.getElem_cons_succ, List.getElem_cons_zero, List.setIfInBounds_toArray, List.set_cons_zero, List.set_cons_succ]
                  refine wpAnyH_take (i := 6) (v := ?_) rfl (by kernel_rfl) (by kernel_rfl) (by kernel_rfl) (fun _ _ _ h => h) (Or.inl ⟨by rfl, ?_⟩) hHeld ?_
                  rotate_left
                  · intro w hSw; try dsimp only at hSw
                    go_simp; try (with_reducible rfl)
                  try simp only [Act.put, List.getElem_toArray, List.getElem_cons_succ, List.getElem_cons_zero, List.setIfInBounds_toArray, List.set_cons_zero, List.set_cons_succ]
                  refine wpAnyH_take (i := 7) (v := .agg (vals y).toArray) rfl (by kernel_rfl) (by kernel_rfl) (by kernel_rfl) (fun _ _ _ h => h) (yieldsIf_load_mid (by rfl) _ _ rfl (g2) (j * 288) rfl (vals y) _ (fun w hSw => hR2 _ hSw.2) Try.underlying46 rfl (sizeP HY.out)) hHeld ?_
                  try simp only [Act.put, List.getElem_toArray, List.getElem_cons_succ, List.getElem_cons_zero, List.setIfInBounds_toArray, List.set_cons_zero, List.set_cons_succ]
                  refine wpAnyH_take (i := 8) (v := ?_) rfl (by kernel_rfl) (by kernel_rfl) (by kernel_rfl) (fun _ _ _ h => h) (Or.inl ⟨by rfl, ?_⟩) hHeld ?_
                  rotate_left
                  · intro w hSw; try dsimp only at hSw
                    go_simp; try (with_reducible rfl)
                  try simp only [Act.put, List.getElem_toArray, List.getElem_cons_succ, List.getElem_cons_zero, List.setIfInBounds_toArray, List.set_cons_zero, List.set_cons_succ]
                  refine wpAnyH_done (by kernel_rfl) ?_ _
                  refine NoPanic.normal ?_
                  go_wp2
                  go_roundw
                  case rel => exact ⟨j + 1, by omega, by go_num, hA1.below ((Below.refl _ _).drew), hA2.below ((Below.refl _ _).drew), hA3.drew⟩
                  case measure => simp [intOf]; omega
                · have hjj : ¬ j < ps.length := hlj
                  go_wp2
                  go_ret
                  exact ⟨rfl, hA3⟩
  · refine (new_bad gb gp _ 1 1 _ hgeo).mono ?_
    rintro e w2 ⟨rfl, hb2⟩
    go_wp2_with fail
    refine (begun_any _).mono ?_
    rintro e w3 ⟨rfl, hb3⟩
    go_wp2_with fail
    refine (begun_any _).mono ?_
    rintro e w4 ⟨rfl, hb4⟩
    go_wp2
    go_ret
    exact ⟨rfl, bt (bt (bt hb1 hb2) hb3) hb4⟩
end Go.Proofs.Ythafcnilhloldaa
